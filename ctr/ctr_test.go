package ctr_test

import (
	"fmt"
	"math"
	"math/rand"
	"slices"
	"testing"

	"portreeve/api"
	"portreeve/ctr"
	"portreeve/nv"
	"portreeve/slot"
)

const (
	mark = 0xc3a55a3c
	last = math.MaxUint32
)

type quad = [4]uint32

func rec(seq, value uint32) api.Rec { return api.Rec{Seq: seq, Value: value} }

func cut(after int, mask uint32) api.Cut { return api.Cut{After: after, Mask: mask} }

// joined are the words of slots, one behind the other.
func joined(slots ...quad) []uint32 {
	var l []uint32
	for _, w := range slots {
		l = append(l, w[:]...)
	}
	return l
}

// among are three counters, the second one of which has these slots; the others tell 100 and 102.
func among(first, second quad) []uint32 {
	return joined(slot.Words(0, rec(1, 100)), quad{}, first, second, quad{}, slot.Words(2, rec(9, 102)))
}

// unlike is a record's words with one bit changed.
func unlike(id int, r api.Rec, word, bit int) quad {
	w := slot.Words(id, r)
	w[word] ^= 1 << bit
	return w
}

// noRecords are words that are no record of id.
func noRecords(id int) []quad {
	l := []quad{{}, {mark}, {last, last, last, last}, {mark, mark, mark, mark}, {1, 2, 3, 4}, {0, 1, 3, slot.Check(id, rec(1, 3))}}
	for word := range 4 {
		l = append(l, unlike(id, rec(5, 50), word, 0), unlike(id, rec(5, 50), word, 31))
	}
	return append(l, slot.Words(id+1, rec(7, 70)), slot.Words(id-1, rec(8, 80)), slot.Words(-id, rec(9, 90)))
}

// greatIds are ids that no store has; where they are multiplied without care, or cut to 32 bits, some of them come out small.
func greatIds() []int {
	return []int{1 << 31, 1<<31 - 1, 1 << 32, 1<<32 + 1, 1 << 58, 1 << 60, 1 << 61, 1<<61 + 1, 1<<61 - 1, 1 << 62, 1<<62 + 1, math.MaxInt,
		-1, -2, -8, -1 << 31, -1 << 32, 1 - 1<<32, -1 << 61, 1 - 1<<61, -1 << 62, math.MinInt, math.MinInt + 1}
}

func checkErr(t *testing.T, what string, got, want api.Errno) {
	t.Helper()
	if got != want {
		t.Errorf("%s: error %d, want %d", what, got, want)
	}
}

func checkRecover(t *testing.T, what string, s *nv.Store, id int, value uint32, e api.Errno) {
	t.Helper()
	if v, got := ctr.Recover(s, id); v != value || got != e {
		t.Errorf("%s: Recover(%d) = %d, error %d, want %d, %d", what, id, v, got, value, e)
	}
}

func checkWords(t *testing.T, what string, got, want []uint32) {
	t.Helper()
	if !slices.Equal(got, want) {
		t.Errorf("%s:\n%#x, want\n%#x", what, got, want)
	}
}

// checkSlots asks what Recover tells of the second one of three counters with these slots, and that nothing is written.
func checkSlots(t *testing.T, what string, first, second quad, value uint32, e api.Errno) {
	t.Helper()
	words := among(first, second)
	s := nv.New(words, cut(0, last))
	checkRecover(t, what, s, 1, value, e)
	checkRecover(t, what+", the one ahead", s, 0, 100, api.OK)
	checkRecover(t, what+", the one behind", s, 2, 102, api.OK)
	checkWords(t, what+", words", s.Words(), words)
	if s.Writes() != 0 || s.Dead() {
		t.Errorf("%s: Recover writes", what)
	}
}

// modelRecover is P13.2 of words, with the place of the slot that counts.
func modelRecover(words []uint32, id int) (r api.Rec, place int, e api.Errno) {
	if id < 0 || id > len(words) || id*8+8 > len(words) {
		return api.Rec{}, 0, api.ErrRange
	}
	a, isA := slot.Of(id, quad(words[id*8:]))
	b, isB := slot.Of(id, quad(words[id*8+4:]))
	switch {
	case !isA && !isB, isA && isB && a.Seq == b.Seq && a.Value != b.Value:
		return api.Rec{}, 0, api.ErrLost
	case !isA || isB && b.Seq > a.Seq:
		r, place = b, 1
	default:
		r = a
	}
	if r.Seq == last || r.Value == last {
		return api.Rec{}, 0, api.ErrFull
	}
	return r, place, api.OK
}

// modelWrites is P13.3: the writes of a Bump, each with its place in the store.
func modelWrites(words []uint32, id int, v uint32) ([]api.Put, api.Errno) {
	r, place, e := modelRecover(words, id)
	switch {
	case e != api.OK:
		return nil, e
	case v <= r.Value:
		return nil, api.ErrBack
	case v == last:
		return nil, api.ErrFull
	}
	at, to := id*8+4*(1-place), rec(r.Seq+1, v)
	l := []api.Put{{At: at + 1, W: to.Seq}, {At: at + 2, W: v}, {At: at + 3, W: slot.Check(id, to)}, {At: at, W: mark}}
	if words[at] == mark {
		l = slices.Insert(l, 0, api.Put{At: at, W: 0})
	}
	return l, api.OK
}

// written is words behind the first n writes, of the next one of which the bits of mask are written.
func written(words []uint32, l []api.Put, n int, mask uint32) []uint32 {
	words = slices.Clone(words)
	for i, p := range l {
		if i < n {
			words[p.At] = p.W
		} else if i == n {
			words[p.At] = words[p.At]&^mask | p.W&mask
		}
	}
	return words
}

func TestExample(t *testing.T) { // the chapter's first example
	s := nv.New(ctr.Format(3))
	checkRecover(t, "ahead", s, 0, 3, api.OK)
	checkErr(t, "Bump(0, 5)", ctr.Bump(s, 0, 5), api.OK)
	if s.Writes() != 4 {
		t.Errorf("%d writes", s.Writes())
	}
	checkRecover(t, "behind", s, 0, 5, api.OK)
	checkErr(t, "Bump(0, 5)", ctr.Bump(s, 0, 5), api.ErrBack)
}

func TestCount(t *testing.T) { // P13.1
	for _, c := range []struct{ words, want int }{{0, 0}, {1, 0}, {4, 0}, {7, 0}, {8, 1}, {9, 1}, {15, 1}, {16, 2}, {17, 2}, {23, 2}, {24, 3}, {4095, 511}, {4096, 512}, {4103, 512}, {80001, 10000}} {
		if got := ctr.Count(nv.New(make([]uint32, c.words), cut(0, 0))); got != c.want {
			t.Errorf("Count of %d words: %d, want %d", c.words, got, c.want)
		}
	}
}

func TestStoreNobodyMade(t *testing.T) { // P1, P13.1 to P13.3
	for _, s := range []*nv.Store{nil, {}, new(nv.Store)} {
		if n := ctr.Count(s); n != 0 {
			t.Errorf("Count: %d", n)
		}
		for _, id := range append(greatIds(), 0, 1) {
			checkRecover(t, "nobody's", s, id, 0, api.ErrRange)
			for _, v := range []uint32{0, 1, last} {
				checkErr(t, "nobody's Bump", ctr.Bump(s, id, v), api.ErrRange)
			}
		}
		if l := ctr.All(s, 2); !slices.Equal(l, []api.Counter{{Err: api.ErrRange}, {Err: api.ErrRange}}) {
			t.Errorf("nobody's All: %+v", l)
		}
	}
}

func TestWhichIdsThereAre(t *testing.T) { // P13.2, P13.3
	for _, n := range []int{0, 1, 2, 3, 17, 512, 1003} {
		values := make([]uint32, n)
		for i := range values {
			values[i] = uint32(1000 + i)
		}
		for _, more := range []int{0, 1, 4, 7} { // words of one that isn't there whole
			words := append(ctr.Format(values...), joined(slot.Words(n, rec(1, 5)), quad{})[:more]...)
			s := nv.New(words)
			for i, v := range values {
				checkRecover(t, fmt.Sprint(n, " counters"), s, i, v, api.OK)
			}
			for _, id := range append(greatIds(), n, n+1, n+8, 8*n+1) {
				checkRecover(t, fmt.Sprint(n, " counters"), s, id, 0, api.ErrRange)
				for _, v := range []uint32{0, 5000, last} {
					checkErr(t, fmt.Sprintf("Bump(%d) of %d counters", id, n), ctr.Bump(s, id, v), api.ErrRange)
				}
			}
			checkWords(t, "behind them", s.Words(), words)
		}
	}
}

func TestRecoverOfNoRecord(t *testing.T) { // P13.2
	for _, first := range noRecords(1) {
		for _, second := range noRecords(1) {
			checkSlots(t, "no record", first, second, 0, api.ErrLost)
		}
	}
	// A record is one where it lies: not a word further on, and not across both slots.
	w := slot.Words(1, rec(1, 3))
	s := nv.New(append(append([]uint32{mark, 0, 0, 0, 0, 0, 0, 0, 0, 0}, w[:]...), 0, 0))
	checkRecover(t, "across both slots", s, 1, 0, api.ErrLost)
}

func TestRecoverOfOneRecord(t *testing.T) { // P13.2: the first slot's alone, the second one's alone
	for _, r := range []api.Rec{rec(1, 3), rec(0, 0), rec(0, 1), rec(1, 0), rec(last-1, last-1), rec(0, last-1), rec(last-1, 0), rec(mark, mark), rec(1<<31, 1<<31)} {
		for _, none := range noRecords(1) {
			checkSlots(t, "the first one", slot.Words(1, r), none, r.Value, api.OK)
			checkSlots(t, "the second one", none, slot.Words(1, r), r.Value, api.OK)
		}
	}
}

func TestRecoverOfAnotherIdsRecord(t *testing.T) { // P13.2: a greater Seq doesn't make it this one's
	for _, other := range []int{0, 2, 3, -1, 1 << 16, 1 << 31, last} {
		w := slot.Words(other, rec(9, 90))
		checkSlots(t, "another's alone", w, quad{}, 0, api.ErrLost)
		checkSlots(t, "another's in both", w, w, 0, api.ErrLost)
		checkSlots(t, "another's first", w, slot.Words(1, rec(1, 3)), 3, api.OK)
		checkSlots(t, "another's second", slot.Words(1, rec(1, 3)), w, 3, api.OK)
	}
}

func TestRecoverOfTwoRecords(t *testing.T) { // P13.2: the greater Seq, whatever the Values
	seqs := []uint32{0, 1, 2, 3, 0xff, 0x100, 0x7fffffff, 0x80000000, 0x80000001, last - 2, last - 1}
	values := []uint32{0, 1, 3, 0x7fffffff, 0x80000000, last - 1}
	for _, a := range seqs {
		for _, b := range seqs {
			for _, x := range values {
				for _, y := range values {
					want, e := x, api.OK
					if b > a {
						want = y
					} else if a == b && x != y {
						want, e = 0, api.ErrLost
					}
					checkSlots(t, fmt.Sprintf("%d %d, %d %d", a, x, b, y), slot.Words(1, rec(a, x)), slot.Words(1, rec(b, y)), want, e)
				}
			}
		}
	}
}

func TestRecoverOfOneSeq(t *testing.T) { // P13.2
	for _, c := range []struct {
		a, b  api.Rec
		value uint32
		e     api.Errno
	}{
		{rec(4, 9), rec(4, 9), 9, api.OK},
		{rec(0, 0), rec(0, 0), 0, api.OK},
		{rec(4, 9), rec(4, 8), 0, api.ErrLost},
		{rec(4, 8), rec(4, 9), 0, api.ErrLost},
		{rec(4, 0), rec(4, 1), 0, api.ErrLost},
		{rec(0, 0), rec(0, 1<<31), 0, api.ErrLost},
		{rec(4, last), rec(4, 9), 0, api.ErrLost}, // P4: lost ahead of full
		{rec(4, 9), rec(4, last), 0, api.ErrLost},
		{rec(last, 9), rec(last, 8), 0, api.ErrLost},
		{rec(last, last), rec(last, last-1), 0, api.ErrLost},
		{rec(last, 9), rec(last, 9), 0, api.ErrFull},
		{rec(4, last), rec(4, last), 0, api.ErrFull},
		{rec(last, last), rec(last, last), 0, api.ErrFull},
	} {
		checkSlots(t, fmt.Sprintf("%+v, %+v", c.a, c.b), slot.Words(1, c.a), slot.Words(1, c.b), c.value, c.e)
	}
}

func TestRecoverOfTheLastNumbers(t *testing.T) { // P13.2: in the record that counts, and in the other one
	for _, r := range []api.Rec{rec(1, last), rec(last, 3), rec(last, last), rec(0, last), rec(last, 0), rec(last-1, last), rec(last, last-1)} {
		for _, none := range noRecords(1) {
			checkSlots(t, "full, the first one", slot.Words(1, r), none, 0, api.ErrFull)
			checkSlots(t, "full, the second one", none, slot.Words(1, r), 0, api.ErrFull)
		}
	}
	for _, c := range []struct {
		counts, not api.Rec
		value       uint32
		e           api.Errno
	}{
		{rec(2, last), rec(1, 3), 0, api.ErrFull},
		{rec(last, 4), rec(last-1, 3), 0, api.ErrFull},
		{rec(last, 4), rec(1, last), 0, api.ErrFull},
		{rec(2, 4), rec(1, last), 4, api.OK},
		{rec(2, last-1), rec(1, last), last - 1, api.OK},
		{rec(last-1, 4), rec(last-2, last), 4, api.OK},
		{rec(last-1, last-1), rec(1, 1), last - 1, api.OK},
		{rec(2, 4), rec(1, last-1), 4, api.OK},
		{rec(last-1, 4), rec(last-2, 3), 4, api.OK},
	} {
		counts, not := slot.Words(1, c.counts), slot.Words(1, c.not)
		checkSlots(t, fmt.Sprintf("%+v counts, ahead of %+v", c.counts, c.not), counts, not, c.value, c.e)
		checkSlots(t, fmt.Sprintf("%+v counts, behind %+v", c.counts, c.not), not, counts, c.value, c.e)
	}
}

func TestRecoverOfOneBitChanged(t *testing.T) { // P13.2: a record that is spoilt gives way to the older one
	for word := range 4 {
		for bit := range 32 {
			checkSlots(t, "spoilt", unlike(1, rec(2, 4), word, bit), slot.Words(1, rec(1, 3)), 3, api.OK)
			checkSlots(t, "spoilt", slot.Words(1, rec(1, 3)), unlike(1, rec(2, 4), word, bit), 3, api.OK)
			checkSlots(t, "spoilt", unlike(1, rec(2, 4), word, bit), quad{}, 0, api.ErrLost)
		}
	}
}

func TestAll(t *testing.T) { // P13.2
	words := slices.Concat(ctr.Format(7), joined(quad{}, quad{}), joined(slot.Words(2, rec(1, last)), quad{}), joined(slot.Words(3, rec(1, 8)), slot.Words(3, rec(2, 9))))
	want := []api.Counter{{Value: 7}, {Err: api.ErrLost}, {Err: api.ErrFull}, {Value: 9}, {Err: api.ErrRange}, {Err: api.ErrRange}}
	for n := range 7 {
		if l := ctr.All(nv.New(words), n); !slices.Equal(l, want[:n]) {
			t.Errorf("All of %d: %+v, want %+v", n, l, want[:n])
		}
	}
	for _, n := range []int{-1, -2, -1000, -1 << 32, math.MinInt} {
		if l := ctr.All(nv.New(words), n); len(l) != 0 {
			t.Errorf("All of %d: %+v", n, l)
		}
	}
}

func TestAllOfMany(t *testing.T) { // P13.2: at most 1000
	values := make([]uint32, 1005)
	for i := range values {
		values[i] = uint32(3 * i)
	}
	s := nv.New(ctr.Format(values...))
	few := nv.New(ctr.Format(values[:2]...))
	for _, n := range []int{998, 999, 1000, 1001, 1004, 1005, 1006, 5000, 1 << 31, 1 << 32, math.MaxInt} {
		l, m := ctr.All(s, n), ctr.All(few, n)
		if len(l) != min(n, 1000) || len(m) != len(l) {
			t.Fatalf("All of %d: %d, %d", n, len(l), len(m))
		}
		for i, c := range l {
			if (c != api.Counter{Value: values[i]}) {
				t.Errorf("All of %d, counter %d: %+v", n, i, c)
			}
			if i >= 2 && (m[i] != api.Counter{Err: api.ErrRange}) {
				t.Errorf("All of %d, counter %d that isn't there: %+v", n, i, m[i])
			}
		}
	}
}

func TestAllSharesNothing(t *testing.T) { // P2
	s := nv.New(ctr.Format(7, 8))
	l, other := ctr.All(s, 3), ctr.All(s, 3)
	l = l[:cap(l)]
	for i := range l {
		l[i] = api.Counter{Value: 99, Err: 99}
	}
	want := []api.Counter{{Value: 7}, {Value: 8}, {Err: api.ErrRange}}
	if !slices.Equal(other, want) || !slices.Equal(ctr.All(s, 3), want) {
		t.Error("another answer changes with the first one")
	}
}

func TestFormat(t *testing.T) { // P13.4
	if l := ctr.Format(); len(l) != 0 {
		t.Errorf("of no values: %#x", l)
	}
	if l := ctr.Format([]uint32{}...); len(l) != 0 {
		t.Errorf("of an empty list: %#x", l)
	}
	checkWords(t, "of 3", ctr.Format(3), []uint32{mark, 1, 3, 0x3614ef48, 0, 0, 0, 0}) // checks that were worked out apart
	checkWords(t, "of 0 and the last one", ctr.Format(0, last), []uint32{mark, 1, 0, 0xf2ed3e60, 0, 0, 0, 0, mark, 1, last, 0x82f4a5c9, 0, 0, 0, 0})
	checkWords(t, "of three", ctr.Format(0, last, 5), joined(slot.Words(0, rec(1, 0)), quad{}, slot.Words(1, rec(1, last)), quad{}, slot.Words(2, rec(1, 5)), quad{}))
}

func TestFormatOfMany(t *testing.T) { // P13.4: whatever the values, whole, and recovered
	for _, n := range []int{1, 2, 17, 512, 5000} {
		values := make([]uint32, n)
		var want []uint32
		for i := range values {
			values[i] = []uint32{0, 1, last, last - 1, uint32(i), 1 << 31}[i%6]
			want = append(want, joined(slot.Words(i, rec(1, values[i])), quad{})...)
		}
		given := slices.Clone(values)
		checkWords(t, fmt.Sprint("of ", n), ctr.Format(values...), want)
		checkWords(t, "the values", values, given)
		s := nv.New(want)
		if ctr.Count(s) != n {
			t.Errorf("of %d: Count %d", n, ctr.Count(s))
		}
		for i, v := range values {
			if v == last {
				checkRecover(t, "formatted", s, i, 0, api.ErrFull)
			} else {
				checkRecover(t, "formatted", s, i, v, api.OK)
			}
		}
	}
}

func TestFormatSharesNothing(t *testing.T) { // P2: with what was given, with another answer, behind a length
	values := []uint32{1, 2, 3}
	l, other := ctr.Format(values[:2]...), ctr.Format(values[:2]...)
	want := joined(slot.Words(0, rec(1, 1)), quad{}, slot.Words(1, rec(1, 2)), quad{})
	checkWords(t, "of two", l, want)
	l = l[:cap(l)]
	for i := range l {
		l[i] = 0xeeeeeeee
	}
	clear(values[:2])
	checkWords(t, "another answer", other, want)
	checkWords(t, "behind the length", values, []uint32{0, 0, 3})
}

// checkBump asks of a Bump that may be for its words and the number of its writes, then what is recovered.
func checkBump(t *testing.T, what string, words []uint32, id int, v uint32, n int) {
	t.Helper()
	l, e := modelWrites(words, id, v)
	s := nv.New(words)
	checkErr(t, what, ctr.Bump(s, id, v), api.OK)
	checkErr(t, what+", by the model", e, api.OK)
	checkWords(t, what, s.Words(), written(words, l, len(l), 0))
	if s.Writes() != n || len(l) != n {
		t.Errorf("%s: %d writes, by the model %d, want %d", what, s.Writes(), len(l), n)
	}
	checkRecover(t, what, s, id, v, api.OK)
	for k := range n { // each write, in its order, and none more
		for _, mask := range []uint32{0, last, 0x0ff00ff0} {
			s := nv.New(words, cut(k, mask))
			checkErr(t, what+", cut", ctr.Bump(s, id, v), api.ErrPower)
			checkWords(t, fmt.Sprintf("%s, cut at %d with %#x", what, k, mask), s.Words(), written(words, l, k, mask))
		}
	}
	s = nv.New(words, cut(n, 0))
	checkErr(t, what+", cut behind it", ctr.Bump(s, id, v), api.OK)
	checkRecover(t, what+", cut behind it", s, id, v, api.OK)
}

func TestBumpWritesTheOtherSlot(t *testing.T) { // P13.3
	old, older := slot.Words(1, rec(5, 50)), slot.Words(1, rec(4, 40))
	checkBump(t, "the second one, of zeros", among(old, quad{}), 1, 51, 4)
	checkBump(t, "the first one, of zeros", among(quad{}, old), 1, 51, 4)
	checkBump(t, "the second one, older", among(old, older), 1, 51, 5)
	checkBump(t, "the first one, older", among(older, old), 1, 51, 5)
	checkBump(t, "the second one, if they are alike", among(old, old), 1, 51, 5)
	checkBump(t, "the second one, of a greater Value", among(old, slot.Words(1, rec(4, 90))), 1, 51, 5)
	checkBump(t, "the first one, of the last Value", among(slot.Words(1, rec(4, last)), old), 1, 51, 5)
	checkBump(t, "the second one, of the same words", among(old, slot.Words(1, rec(4, 51))), 1, 51, 5)
	for _, none := range noRecords(1) {
		n := 4
		if none[0] == mark { // a record or not
			n = 5
		}
		checkBump(t, "the second one, no record", among(old, none), 1, 51, n)
		checkBump(t, "the first one, no record", among(none, old), 1, 51, n)
	}
}

func TestBumpTo(t *testing.T) { // P13.3: one more, many more, the most there is
	for _, value := range []uint32{0, 1, 7, 0x7fffffff, 0x80000000, last - 2} {
		for _, seq := range []uint32{0, 1, 0x7fffffff, 0x80000000, last - 3, last - 2} {
			for _, v := range []uint32{value + 1, value + (last-value)/2, last - 1} {
				checkBump(t, fmt.Sprintf("from %d (%d) to %d", value, seq, v), among(slot.Words(1, rec(seq, value)), quad{}), 1, v, 4)
				checkBump(t, fmt.Sprintf("from %d (%d) to %d, the first slot", value, seq, v), among(slot.Words(1, rec(seq/2, 3)), slot.Words(1, rec(seq|1, value))), 1, v, 5)
			}
		}
	}
}

func TestBumpOfEachId(t *testing.T) { // P13.3: that counter, and no other one
	for id := range 5 {
		words := append(ctr.Format(10, 20, 30, 40, 50), 1, 2, 3)
		checkBump(t, fmt.Sprint("counter ", id), words, id, 99, 4)
		s := nv.New(words)
		checkErr(t, "Bump", ctr.Bump(s, id, 99), api.OK)
		want := []api.Counter{{Value: 10}, {Value: 20}, {Value: 30}, {Value: 40}, {Value: 50}}
		want[id].Value = 99
		if l := ctr.All(s, 5); !slices.Equal(l, want) {
			t.Errorf("counter %d bumped: %+v", id, l)
		}
	}
}

// checkNoBump asks for an error that writes nothing, neither with power nor where the next write loses it.
func checkNoBump(t *testing.T, what string, words []uint32, id int, v uint32, e api.Errno) {
	t.Helper()
	for _, s := range []*nv.Store{nv.New(words), nv.New(words, cut(0, last))} {
		checkErr(t, fmt.Sprintf("%s: Bump(%d, %d)", what, id, v), ctr.Bump(s, id, v), e)
		checkWords(t, what, s.Words(), words)
		if s.Writes() != 0 || s.Dead() {
			t.Errorf("%s: Bump(%d, %d) writes", what, id, v)
		}
	}
}

func TestBumpOfWhatIsNotRecovered(t *testing.T) { // P13.3, P4: Recover's error ahead of the others
	lost, full := among(quad{}, quad{}), among(slot.Words(1, rec(3, last)), slot.Words(1, rec(2, 6)))
	for _, v := range []uint32{0, 1, 5, 6, 7, 1 << 31, last - 1, last} {
		checkNoBump(t, "lost", lost, 1, v, api.ErrLost)
		checkNoBump(t, "lost, unlike Values", among(slot.Words(1, rec(3, 6)), slot.Words(1, rec(3, 7))), 1, v, api.ErrLost)
		checkNoBump(t, "lost, another's", among(slot.Words(0, rec(3, 6)), slot.Words(2, rec(3, 7))), 1, v, api.ErrLost)
		checkNoBump(t, "full by its Value", full, 1, v, api.ErrFull)
		checkNoBump(t, "full by its Seq", among(slot.Words(1, rec(2, 5)), slot.Words(1, rec(last, 6))), 1, v, api.ErrFull)
		checkNoBump(t, "full by both", among(quad{}, slot.Words(1, rec(last, last))), 1, v, api.ErrFull)
		for _, id := range append(greatIds(), 3, 4) {
			checkNoBump(t, "out of range", full, id, v, api.ErrRange)
		}
	}
}

func TestBumpBack(t *testing.T) { // P13.3: less, or the same
	for _, value := range []uint32{0, 1, 2, 50, 0x7fffffff, 0x80000000, 0x80000001, last - 2, last - 1} {
		for _, v := range []uint32{0, value / 2, value - min(value, 1), value} {
			checkNoBump(t, "back", among(slot.Words(1, rec(5, value)), quad{}), 1, v, api.ErrBack)
			checkNoBump(t, "back", among(slot.Words(1, rec(4, 0)), slot.Words(1, rec(5, value))), 1, v, api.ErrBack)
			checkNoBump(t, "back", among(slot.Words(1, rec(last-1, value)), slot.Words(1, rec(5, 0))), 1, v, api.ErrBack)
		}
	}
}

func TestBumpToTheLastNumber(t *testing.T) { // P13.3
	for _, value := range []uint32{0, 1, 50, 1 << 31, last - 2, last - 1} {
		checkNoBump(t, "full", among(slot.Words(1, rec(5, value)), quad{}), 1, last, api.ErrFull)
		checkNoBump(t, "full", among(slot.Words(1, rec(5, 0)), slot.Words(1, rec(last-1, value))), 1, last, api.ErrFull)
	}
}

// TestBumpToTheLastSeq: the words of P13.3 let the last but one Seq be followed by the last one, of which P13.2 tells ErrFull.
func TestBumpToTheLastSeq(t *testing.T) { // P13.2, P13.3
	s := nv.New(among(slot.Words(1, rec(last-1, 6)), quad{}))
	checkErr(t, "Bump", ctr.Bump(s, 1, 7), api.OK)
	checkWords(t, "the last Seq", s.Words(), among(slot.Words(1, rec(last-1, 6)), slot.Words(1, rec(last, 7))))
	checkRecover(t, "the last Seq", s, 1, 0, api.ErrFull)
	for _, v := range []uint32{0, 7, 8, last} {
		checkErr(t, "Bump", ctr.Bump(s, 1, v), api.ErrFull)
	}
}

func TestBumpBehindBump(t *testing.T) { // P13.3: the slots take turns
	s := nv.New(ctr.Format(3, 4))
	slots := []quad{slot.Words(0, rec(1, 3)), {}, slot.Words(1, rec(1, 4)), {}}
	writes := 0
	for i := range uint32(40) {
		seq, v := i+2, 3*i+10
		slots[(seq-1)%2] = slot.Words(0, rec(seq, v))
		checkErr(t, "Bump", ctr.Bump(s, 0, v), api.OK)
		checkWords(t, fmt.Sprint("Bump ", i), s.Words(), joined(slots...))
		checkRecover(t, fmt.Sprint("Bump ", i), s, 0, v, api.OK)
		checkRecover(t, fmt.Sprint("Bump ", i), s, 1, 4, api.OK)
		if writes += 5; i == 0 {
			writes = 4
		}
		if s.Writes() != writes {
			t.Errorf("Bump %d: %d writes, want %d", i, s.Writes(), writes)
		}
		checkErr(t, "Bump to the same", ctr.Bump(s, 0, v), api.ErrBack)
		checkErr(t, "Bump back", ctr.Bump(s, 0, v-1), api.ErrBack)
	}
}

func TestBumpUntilACut(t *testing.T) { // P13.3: a store's cuts count the writes of all Bumps
	s := nv.New(ctr.Format(3, 4), cut(10, 0), cut(1, 0))
	checkErr(t, "four writes", ctr.Bump(s, 0, 5), api.OK)
	checkErr(t, "four more", ctr.Bump(s, 1, 6), api.OK)
	checkErr(t, "the third one of five", ctr.Bump(s, 0, 7), api.ErrPower)
	checkErr(t, "without power", ctr.Bump(s, 1, 8), api.ErrPower)
	s.Reboot()
	checkRecover(t, "behind Reboot", s, 0, 5, api.OK)
	checkRecover(t, "behind Reboot", s, 1, 6, api.OK)
	checkErr(t, "the second one of four", ctr.Bump(s, 0, 7), api.ErrPower)
	s.Reboot()
	checkErr(t, "no cut left", ctr.Bump(s, 0, 7), api.OK)
	checkRecover(t, "no cut left", s, 0, 7, api.OK)
}

func TestStoreWithoutPower(t *testing.T) { // P13.3: nothing is written, and what may not be comes ahead of it
	words := slices.Concat(ctr.Format(3), joined(quad{}, quad{}), joined(slot.Words(2, rec(1, last)), quad{}))
	s := nv.New(words, cut(0, 0))
	checkErr(t, "Write", s.Write(23, 1), api.ErrPower)
	if ctr.Count(s) != 3 {
		t.Errorf("Count: %d", ctr.Count(s))
	}
	want := []api.Counter{{Value: 3}, {Err: api.ErrLost}, {Err: api.ErrFull}, {Err: api.ErrRange}}
	if l := ctr.All(s, 4); !slices.Equal(l, want) {
		t.Errorf("All: %+v", l)
	}
	for _, c := range []struct {
		id int
		v  uint32
		e  api.Errno
	}{{0, 4, api.ErrPower}, {0, last - 1, api.ErrPower}, {0, 3, api.ErrBack}, {0, 0, api.ErrBack}, {0, last, api.ErrFull},
		{1, 4, api.ErrLost}, {2, 4, api.ErrFull}, {3, 4, api.ErrRange}, {-1, 4, api.ErrRange}} {
		checkErr(t, fmt.Sprintf("Bump(%d, %d)", c.id, c.v), ctr.Bump(s, c.id, c.v), c.e)
		checkWords(t, "without power", s.Words(), words)
	}
	s.Reboot()
	checkErr(t, "behind Reboot", ctr.Bump(s, 0, 4), api.OK)
	checkRecover(t, "behind Reboot", s, 0, 4, api.OK)
}

// masks are words of no bit, of one, of all but one, of others, and of all.
func masks() []uint32 {
	l := []uint32{0, last, 0x55555555, 0xaaaaaaaa, 0xff, 0xffff0000, 0x00ffff00, mark, ^uint32(mark), 0x12345678}
	for i := range 32 {
		l = append(l, 1<<i, ^uint32(1<<i))
	}
	return l
}

// checkNeverBack loses the power at the write k of a Bump, and asks what is recovered behind it, of all counters.
func checkNeverBack(t *testing.T, words []uint32, id int, v uint32, k int, mask uint32) {
	t.Helper()
	s := nv.New(words, cut(k, mask))
	n := ctr.Count(s)
	want := ctr.All(s, n)
	l, _ := modelWrites(words, id, v)
	e := ctr.Bump(s, id, v)
	if k < len(l) != (e == api.ErrPower) || k < len(l) != s.Dead() || k >= len(l) && e != api.OK {
		t.Fatalf("Bump of %#x with the power lost at %d: error %d", words, k, e)
	}
	s.Reboot()
	got := ctr.All(s, n)
	if (got[id] == api.Counter{Value: v}) {
		want[id] = got[id]
	}
	if !slices.Equal(got, want) {
		t.Fatalf("%#x, Bump(%d, %d) with the power lost at %d by %#x: %+v", words, id, v, k, mask, got)
	}
	if whole := k >= len(l) || k == len(l)-1 && mask == last; whole && got[id].Value != v || k < len(l)-1 && got[id].Value == v {
		t.Fatalf("%#x, Bump(%d, %d) with the power lost at %d by %#x: %d", words, id, v, k, mask, got[id].Value)
	}
	again := api.OK // what the loss left is bumped as any other
	if got[id].Value == v {
		again = api.ErrBack
	}
	checkErr(t, "the Bump again", ctr.Bump(s, id, v), again)
	checkRecover(t, "the Bump again", s, id, v, api.OK)
}

func TestNeverBack(t *testing.T) { // P13.5
	old, older := slot.Words(1, rec(5, 50)), slot.Words(1, rec(4, 40))
	states := [][]uint32{ctr.Format(49, 50, 51), among(old, older), among(older, old), among(old, old)}
	for _, none := range noRecords(1) {
		states = append(states, among(old, none), among(none, old))
	}
	next := slot.Words(1, rec(6, 51))
	for word := range 4 { // what a Bump that was cut may have left
		w := next
		w[word] = 0
		states = append(states, among(old, w), among(w, old))
	}
	states = append(states, among(old, slot.Words(1, rec(4, 51))), among(old, slot.Words(1, rec(4, last))), among(slot.Words(1, rec(0, 50)), quad{}), among(quad{}, slot.Words(1, rec(last-2, 50))))
	for _, words := range states {
		for _, v := range []uint32{51, 52, 1 << 31, last - 1} {
			for k := range 7 {
				for _, mask := range masks() {
					checkNeverBack(t, words, 1, v, k, mask)
				}
			}
		}
	}
}

func TestNeverBackOfEachId(t *testing.T) { // P13.5: with lost and full counters beside it
	words := slices.Concat(ctr.Format(5, 6), joined(quad{}, quad{}), joined(slot.Words(3, rec(1, last)), quad{}), joined(slot.Words(4, rec(2, 7)), slot.Words(4, rec(3, 8))))
	for _, id := range []int{0, 1, 4} {
		for k := range 7 {
			for _, mask := range masks() {
				checkNeverBack(t, words, id, 100, k, mask)
			}
		}
	}
}

func TestNeverBackThroughManyLosses(t *testing.T) { // P13.5: each one upon what the one ahead of it left
	for seed := range int64(400) {
		pick := rand.New(rand.NewSource(seed))
		cuts := make([]api.Cut, 40)
		for i := range cuts {
			cuts[i] = cut(pick.Intn(12), pick.Uint32()|pick.Uint32()|pick.Uint32())
		}
		s := nv.New(ctr.Format(1, 1, 1), cuts...)
		values := []uint32{1, 1, 1}
		for n := range 150 {
			id := pick.Intn(3)
			v := values[id] + 1 + uint32(pick.Intn(3))
			switch e := ctr.Bump(s, id, v); e {
			case api.OK:
				values[id] = v
			case api.ErrPower:
				s.Reboot()
				if got, _ := ctr.Recover(s, id); got == v {
					values[id] = v
				}
			default:
				t.Fatalf("seed %d, Bump %d: error %d", seed, n, e)
			}
			for i, v := range values {
				checkRecover(t, fmt.Sprintf("seed %d, Bump %d", seed, n), s, i, v, api.OK)
			}
		}
	}
}

// someSlot is a record, of this id or of another one, or none.
func someSlot(pick *rand.Rand, id int) quad {
	few := []uint32{0, 1, 2, 3, last - 2, last - 1, last}
	w := slot.Words(id+pick.Intn(10)/9, rec(few[pick.Intn(len(few))], few[pick.Intn(len(few))]))
	if pick.Intn(4) == 0 {
		w[pick.Intn(4)] ^= 1 << pick.Intn(32)
	}
	return w
}

// TestCounters does many things in an order that a number tells, and holds all of it against the model.
func TestCounters(t *testing.T) { // P13.1 to P13.3
	for seed := range int64(2000) {
		pick := rand.New(rand.NewSource(seed))
		var words []uint32
		for id := range pick.Intn(4) {
			words = append(words, joined(someSlot(pick, id), someSlot(pick, id))...)
		}
		words = append(words, make([]uint32, pick.Intn(8))...)
		s := nv.New(words)
		for n := range 20 {
			what := fmt.Sprintf("seed %d, thing %d", seed, n)
			id, v := pick.Intn(ctr.Count(s)+2)-1, uint32(pick.Intn(6))+uint32(pick.Intn(2))*(last-5)
			r, _, e := modelRecover(words, id)
			checkRecover(t, what, s, id, r.Value, e)
			l, e := modelWrites(words, id, v)
			checkErr(t, what, ctr.Bump(s, id, v), e)
			words = written(words, l, len(l), 0)
			checkWords(t, what, s.Words(), words)
		}
		if ctr.Count(s) != len(words)/8 {
			t.Errorf("seed %d: Count %d of %d words", seed, ctr.Count(s), len(words))
		}
	}
}
