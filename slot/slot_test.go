package slot_test

import (
	"fmt"
	"math"
	"math/big"
	"math/rand"
	"slices"
	"testing"

	"portreeve/api"
	"portreeve/slot"
)

const (
	mark = 0xc3a55a3c
	last = math.MaxUint32
)

type quad = [4]uint32

func rec(seq, value uint32) api.Rec { return api.Rec{Seq: seq, Value: value} }

func to(at int, w uint32) api.Put { return api.Put{At: at, W: w} }

// edges are words whose bits are all alike, by turns, those of the mark, or single ones at each place.
func edges() []uint32 {
	l := []uint32{0, last, 0x55555555, 0xaaaaaaaa, 0xff, 0xffff0000, 0x00ffff00, mark, ^uint32(mark), mark + 1, mark - 1, 0x12345678}
	for i := range 32 {
		l = append(l, 1<<i, ^uint32(1<<i))
	}
	return l
}

func ids() []int {
	return []int{0, 1, 2, 7, 511, 1 << 31, last, 1 << 32, 1<<32 + 7, 1 << 40, math.MaxInt, -1, -2, -1 << 31, -1 << 32, 7 - 1<<32, math.MinInt, 0x6e766374}
}

func recs() []api.Rec {
	l := []api.Rec{rec(1, 3), rec(0x12345678, 0x9abcdef0), rec(mark, mark), rec(mark, 0), rec(0, mark)}
	for _, seq := range []uint32{0, 1, last - 1, last} {
		for _, value := range []uint32{0, 1, last - 1, last} {
			l = append(l, rec(seq, value))
		}
	}
	return l
}

// modelCheck is P12.1 in numbers that don't wrap, and a rotation of one bit at a time.
func modelCheck(id int, r api.Rec) uint32 {
	all := new(big.Int).Lsh(big.NewInt(1), 32)
	x := big.NewInt(0x6e766374)
	for _, w := range []*big.Int{big.NewInt(int64(id)), big.NewInt(int64(r.Seq)), big.NewInt(int64(r.Value))} {
		w.Mod(w, all) // of a negative number it is from 0 on too
		x.Xor(x, w).Mul(x, big.NewInt(0x9e3779b1)).Mod(x, all)
		for range 15 {
			top := x.Bit(31)
			x.Lsh(x, 1).Mod(x, all).SetBit(x, 0, top)
		}
		x.Add(x, w).Mod(x, all)
	}
	return uint32(x.Uint64())
}

func modelWords(id int, r api.Rec) quad {
	return quad{mark, r.Seq, r.Value, modelCheck(id, r)}
}

// modelWrite is w behind a write, a bit at a time.
func modelWrite(w quad, p api.Put, mask uint32) quad {
	for bit := range 32 {
		if p.At >= 0 && p.At <= 3 && mask>>bit%2 == 1 {
			w[p.At] = w[p.At]&^(1<<bit) | p.W>>bit%2<<bit
		}
	}
	return w
}

// modelTorn goes through all writes, and asks of each where it stands.
func modelTorn(w quad, l []api.Put, k int, mask uint32) quad {
	for i, p := range l {
		if i < k {
			w = modelWrite(w, p, last)
		} else if i == max(k, 0) {
			w = modelWrite(w, p, mask)
		}
	}
	return w
}

func checkWords(t *testing.T, what string, got, want quad) {
	t.Helper()
	if got != want {
		t.Errorf("%s: %#x, want %#x", what, got, want)
	}
}

func checkIs(t *testing.T, what string, id int, w quad, want api.Rec) {
	t.Helper()
	if r, is := slot.Of(id, w); r != want || !is {
		t.Errorf("%s: Of(%d, %#x) = %+v, %v, want %+v", what, id, w, r, is, want)
	}
}

// checkNone asks that words are no record's, and that the record with false is the zero one.
func checkNone(t *testing.T, what string, id int, w quad) {
	t.Helper()
	if r, is := slot.Of(id, w); is || r != (api.Rec{}) {
		t.Errorf("%s: Of(%d, %#x) = %+v, %v", what, id, w, r, is)
	}
}

func TestExample(t *testing.T) { // the chapter's first example
	r := rec(1, 3)
	checkIs(t, "Of of Words", 0, slot.Words(0, r), r)
	want := []api.Put{to(1, 1), to(2, 3), to(3, slot.Check(0, r)), to(0, mark)}
	if l := slot.Steps(0, quad{}, r); !slices.Equal(l, want) {
		t.Errorf("Steps from four words 0: %#x, want %#x", l, want)
	}
}

func TestCheck(t *testing.T) { // P12.1: numbers that were worked out apart
	for _, c := range []struct {
		id         int
		seq, value uint32
		want       uint32
	}{
		{0, 0, 0, 0x7bbf3365},
		{0, 0, last, 0xc768fd7d},
		{0, last, 0, 0x903ad0ef},
		{0, last, last, 0xb2ed5ff3},
		{1, 0, 0, 0x7a88c6f9},
		{1, 1, 0, 0xc0330b19},
		{1, 0, 1, 0xbdb077de},
		{7, 1, 3, 0xafdcdbf4},
		{511, 2, 0x80000000, 0x0befbeca},
		{0x6e766374, 0, 0, 0x0f1270de},
		{last, 0, 0, 0x389fdd16},
		{-1, 0, 0, 0x389fdd16},
		{-1, last, last, 0x6fcd89a4},
		{-2, 0x12345678, 0x9abcdef0, 0x7576a641},
		{1 << 32, 0, 0, 0x7bbf3365},
		{1<<32 + 7, 1, 3, 0xafdcdbf4},
		{-1 << 32, 0, 0, 0x7bbf3365},
		{math.MaxInt, 5, 6, 0xb06343ee},
		{math.MinInt, 5, 6, 0xd95c8684},
	} {
		r := rec(c.seq, c.value)
		if got := slot.Check(c.id, r); got != c.want {
			t.Errorf("Check(%d, %+v) = %#x, want %#x", c.id, r, got, c.want)
		}
		if got := modelCheck(c.id, r); got != c.want {
			t.Errorf("the test's own Check(%d, %+v) = %#x, want %#x", c.id, r, got, c.want)
		}
	}
}

func TestCheckOfEachBit(t *testing.T) { // P12.1
	for _, w := range edges() {
		for _, id := range append(ids(), int(w), -int(w), int(w)<<32, int(w)<<16) {
			for _, r := range []api.Rec{rec(w, 0), rec(0, w), rec(w, w), rec(w, ^w), rec(last, w), rec(w, last)} {
				if got, want := slot.Check(id, r), modelCheck(id, r); got != want {
					t.Fatalf("Check(%d, %+v) = %#x, want %#x", id, r, got, want)
				}
			}
		}
	}
}

func TestIdCountsModulo(t *testing.T) { // P12.1, P12.2, P12.3
	for _, id := range []int{0, 1, 7, 1 << 31, last} {
		for _, same := range []int{id + 1<<32, id - 1<<32, id + 1<<62, id - 1<<62, int(int32(id))} {
			for _, r := range recs() {
				w := slot.Words(id, r)
				checkWords(t, fmt.Sprintf("Words(%d), Words(%d)", id, same), slot.Words(same, r), w)
				checkIs(t, "the same id", same, w, r)
				if !slices.Equal(slot.Steps(id, w, r), slot.Steps(same, w, r)) {
					t.Errorf("Steps of %d and %d differ", id, same)
				}
			}
		}
	}
}

func TestWords(t *testing.T) { // P12.2: the mark first, then Seq, Value and Check
	checkWords(t, "Words", slot.Words(7, rec(1, 3)), quad{0xc3a55a3c, 1, 3, 0xafdcdbf4})
	checkWords(t, "Words", slot.Words(0, rec(0, 0)), quad{0xc3a55a3c, 0, 0, 0x7bbf3365})
	checkWords(t, "Words", slot.Words(-1, rec(last, last)), quad{0xc3a55a3c, last, last, 0x6fcd89a4})
	checkWords(t, "Words", slot.Words(-2, rec(0x12345678, 0x9abcdef0)), quad{0xc3a55a3c, 0x12345678, 0x9abcdef0, 0x7576a641})
	for _, id := range ids() {
		for _, r := range recs() {
			checkWords(t, fmt.Sprintf("Words(%d, %+v)", id, r), slot.Words(id, r), modelWords(id, r))
		}
	}
}

func TestOfWords(t *testing.T) { // P12.2
	for _, id := range ids() {
		for _, r := range recs() {
			checkIs(t, "Of of Words", id, slot.Words(id, r), r)
			checkIs(t, "Of of the test's own Words", id, modelWords(id, r), r)
		}
		for _, w := range edges() {
			r := rec(w, ^w)
			checkIs(t, "Of of Words", id, slot.Words(id, r), r)
		}
	}
}

func TestOfOneBitChanged(t *testing.T) { // P12.2: in each of the four words
	for _, id := range ids() {
		for _, r := range recs() {
			for i := range 4 {
				for bit := range 32 {
					w := slot.Words(id, r)
					w[i] ^= 1 << bit
					checkNone(t, fmt.Sprintf("bit %d of word %d", bit, i), id, w)
				}
			}
		}
	}
}

func TestOfWithoutTheMark(t *testing.T) { // P12.2
	for _, id := range ids() {
		for _, r := range recs() {
			for _, other := range edges() {
				w := slot.Words(id, r)
				if w[0] = other; other != mark {
					checkNone(t, "another first word", id, w)
				}
			}
		}
		checkNone(t, "four zeros", id, quad{})
		checkNone(t, "four words of ones", id, quad{last, last, last, last})
		checkNone(t, "the mark alone", id, quad{mark})
		checkNone(t, "four marks", id, quad{mark, mark, mark, mark})
	}
}

func TestOfWordsInAnotherOrder(t *testing.T) { // P12.2
	for _, id := range ids() {
		for _, r := range []api.Rec{rec(1, 3), rec(0x12345678, 0x9abcdef0), rec(0, last)} {
			w := slot.Words(id, r)
			for _, o := range []quad{{0, 2, 1, 3}, {3, 1, 2, 0}, {1, 0, 2, 3}, {0, 1, 3, 2}, {0, 3, 2, 1}, {3, 2, 1, 0}, {1, 2, 3, 0}, {3, 0, 1, 2}} {
				checkNone(t, fmt.Sprintf("in the order %d", o), id, quad{w[o[0]], w[o[1]], w[o[2]], w[o[3]]})
			}
		}
	}
}

func TestOfWordsOfAnotherId(t *testing.T) { // P12.2
	for _, id := range ids() {
		for _, other := range ids() {
			if uint32(id) == uint32(other) {
				continue
			}
			for _, r := range recs() {
				checkNone(t, fmt.Sprintf("Words of %d", other), id, slot.Words(other, r))
			}
		}
	}
}

// steps is P12.3, a write at a time.
func steps(id int, w quad, r api.Rec) []api.Put {
	want := []api.Put{to(1, r.Seq), to(2, r.Value), to(3, modelCheck(id, r)), to(0, mark)}
	if w[0] == mark {
		want = slices.Insert(want, 0, to(0, 0))
	}
	return want
}

func checkSteps(t *testing.T, id int, w quad, r api.Rec, n int) {
	t.Helper()
	l := slot.Steps(id, w, r)
	if !slices.Equal(l, steps(id, w, r)) || len(l) != n {
		t.Errorf("Steps(%d, %#x, %+v) = %#x", id, w, r, l)
	}
	checkWords(t, "behind the Steps", slot.After(w, l...), slot.Words(id, r))
}

func TestStepsFromWordsWithTheMark(t *testing.T) { // P12.3
	for _, id := range ids() {
		for _, r := range recs() {
			for _, old := range recs() {
				checkSteps(t, id, slot.Words(id, old), r, 5)
				checkSteps(t, id, slot.Words(id+1, old), r, 5) // the mark is asked for, not a record
			}
			for _, w := range []quad{{mark}, {mark, last, last, last}, {mark, mark, mark, mark}, {mark, r.Seq}, {mark, r.Seq, r.Value}} {
				checkSteps(t, id, w, r, 5)
			}
		}
	}
}

func TestStepsFromWordsWithoutTheMark(t *testing.T) { // P12.3
	for _, id := range ids() {
		for _, r := range recs() {
			for _, first := range edges() {
				if first == mark {
					continue
				}
				checkSteps(t, id, quad{first}, r, 4)
				w := slot.Words(id, r)
				w[0] = first
				checkSteps(t, id, w, r, 4)
			}
			checkSteps(t, id, quad{0, mark, mark, mark}, r, 4)
		}
	}
}

func TestStepsFromTheSameRecord(t *testing.T) { // P12.3: all of them, whether they change or not
	for _, id := range ids() {
		for _, r := range recs() {
			checkSteps(t, id, slot.Words(id, r), r, 5)
		}
	}
	want := []api.Put{to(0, 0), to(1, 1), to(2, 3), to(3, 0xafdcdbf4), to(0, mark)}
	if l := slot.Steps(7, quad{mark, 1, 3, 0xafdcdbf4}, rec(1, 3)); !slices.Equal(l, want) {
		t.Errorf("from the same record: %#x, want %#x", l, want)
	}
	if l := slot.Steps(7, quad{0, 1, 3, 0xafdcdbf4}, rec(1, 3)); !slices.Equal(l, want[1:]) {
		t.Errorf("from the same record without the mark: %#x, want %#x", l, want[1:])
	}
}

func TestStepsShareNothing(t *testing.T) { // P2, P3
	for _, w := range []quad{{}, slot.Words(7, rec(5, 6))} {
		l, other := slot.Steps(7, w, rec(1, 3)), slot.Steps(7, w, rec(1, 3))
		l = l[:cap(l)]
		for i := range l {
			l[i] = to(9, 9)
		}
		if want := steps(7, w, rec(1, 3)); !slices.Equal(other, want) || !slices.Equal(slot.Steps(7, w, rec(1, 3)), want) {
			t.Error("another answer changes with the first one")
		}
	}
}

// outside are places at which four words have none.
func outside() []int {
	return []int{-1, -2, -3, -4, -5, 4, 5, 7, 8, 1 << 31, 1 << 32, 1<<32 + 1, -1 << 31, -1 << 32, 1 - 1<<32, math.MaxInt, math.MinInt, math.MinInt + 1}
}

func TestAfter(t *testing.T) { // P12.4
	w := quad{0x11, 0x22, 0x33, 0x44}
	for _, c := range []struct {
		what string
		l    []api.Put
		want quad
	}{
		{"no list", nil, w},
		{"no write", []api.Put{}, w},
		{"word 0", []api.Put{to(0, 5)}, quad{5, 0x22, 0x33, 0x44}},
		{"word 1", []api.Put{to(1, 5)}, quad{0x11, 5, 0x33, 0x44}},
		{"word 2", []api.Put{to(2, 5)}, quad{0x11, 0x22, 5, 0x44}},
		{"word 3", []api.Put{to(3, 5)}, quad{0x11, 0x22, 0x33, 5}},
		{"a word 0 and a word of ones", []api.Put{to(3, 0), to(1, last)}, quad{0x11, last, 0x33, 0}},
		{"all of them", []api.Put{to(3, 8), to(1, 6), to(0, 5), to(2, 7)}, quad{5, 6, 7, 8}},
		{"one word twice", []api.Put{to(2, 5), to(2, 6)}, quad{0x11, 0x22, 6, 0x44}},
		{"one word twice, another between", []api.Put{to(2, 6), to(0, 7), to(2, 5)}, quad{7, 0x22, 5, 0x44}},
		{"one word there and back", []api.Put{to(1, 5), to(1, 0x22)}, w},
		{"bits of what was there", []api.Put{to(0, 0x100)}, quad{0x100, 0x22, 0x33, 0x44}},
		{"below, above", []api.Put{to(-1, 5), to(4, 6)}, w},
		{"below and above, others behind", []api.Put{to(-1, 5), to(0, 6), to(4, 7), to(3, 8)}, quad{6, 0x22, 0x33, 8}},
	} {
		checkWords(t, c.what, slot.After(w, c.l...), c.want)
		checkWords(t, c.what+", all of them torn behind", slot.Torn(w, c.l, len(c.l), 0), c.want)
	}
	checkWords(t, "none told", slot.After(w), w)
	checkWords(t, "told one by one", slot.After(w, to(0, 1), to(5, 2), to(3, 3)), quad{1, 0x22, 0x33, 3})
	checkWords(t, "what was given", w, quad{0x11, 0x22, 0x33, 0x44})
}

func TestAfterOutside(t *testing.T) { // P12.4: such a write does nothing, and ends nothing
	w := quad{0x11, 0x22, 0x33, 0x44}
	for _, at := range outside() {
		what := fmt.Sprintf("At %d", at)
		checkWords(t, what, slot.After(w, to(at, last)), w)
		checkWords(t, what, slot.After(quad{}, to(at, last)), quad{})
		checkWords(t, what+", between", slot.After(w, to(1, 5), to(at, last), to(2, 6)), quad{0x11, 5, 6, 0x44})
	}
}

func TestAfterManyWrites(t *testing.T) { // P12.4
	pick := rand.New(rand.NewSource(1))
	for _, n := range []int{10, 1000, 100000} {
		w, l := quad{1, 2, 3, 4}, make([]api.Put, n)
		want := w
		for i := range l {
			l[i] = to(pick.Intn(8)-2, pick.Uint32())
			want = modelWrite(want, l[i], last)
		}
		given := slices.Clone(l)
		checkWords(t, fmt.Sprint(n, " writes"), slot.After(w, l...), want)
		checkWords(t, fmt.Sprint(n, " writes, torn behind"), slot.Torn(w, l, n, 0), want)
		if !slices.Equal(l, given) {
			t.Error("the writes are changed")
		}
	}
}

func TestTorn(t *testing.T) { // P12.4
	w := quad{0x11111111, 0x22222222, 0x33333333, 0x44444444}
	l := []api.Put{to(0, 0xaaaaaaaa), to(1, 0xbbbbbbbb), to(0, 0xcccccccc)}
	for _, c := range []struct {
		k    int
		mask uint32
		want quad
	}{
		{-1, 0, w}, {-5, 0, w}, {math.MinInt, 0, w}, {0, 0, w}, // no write, and nothing of the first one
		{-1, 0xff, quad{0x111111aa, 0x22222222, 0x33333333, 0x44444444}},
		{math.MinInt, 0xffff0000, quad{0xaaaa1111, 0x22222222, 0x33333333, 0x44444444}},
		{-1 << 32, last, quad{0xaaaaaaaa, 0x22222222, 0x33333333, 0x44444444}},
		{0, 0xff, quad{0x111111aa, 0x22222222, 0x33333333, 0x44444444}},
		{0, 1, quad{0x11111110, 0x22222222, 0x33333333, 0x44444444}},
		{0, last, quad{0xaaaaaaaa, 0x22222222, 0x33333333, 0x44444444}},
		{1, 0, quad{0xaaaaaaaa, 0x22222222, 0x33333333, 0x44444444}},
		{1, 0x0ff00000, quad{0xaaaaaaaa, 0x2bb22222, 0x33333333, 0x44444444}},
		{1, 1 << 31, quad{0xaaaaaaaa, 0xa2222222, 0x33333333, 0x44444444}},
		{1, last, quad{0xaaaaaaaa, 0xbbbbbbbb, 0x33333333, 0x44444444}},
		{2, 0, quad{0xaaaaaaaa, 0xbbbbbbbb, 0x33333333, 0x44444444}},
		{2, 0xf, quad{0xaaaaaaac, 0xbbbbbbbb, 0x33333333, 0x44444444}},
		{2, last, quad{0xcccccccc, 0xbbbbbbbb, 0x33333333, 0x44444444}},
		{3, 0, quad{0xcccccccc, 0xbbbbbbbb, 0x33333333, 0x44444444}}, // all, and none more
		{3, last, quad{0xcccccccc, 0xbbbbbbbb, 0x33333333, 0x44444444}},
		{4, 0xff, quad{0xcccccccc, 0xbbbbbbbb, 0x33333333, 0x44444444}},
		{1 << 32, 0xff, quad{0xcccccccc, 0xbbbbbbbb, 0x33333333, 0x44444444}},
		{math.MaxInt, 0, quad{0xcccccccc, 0xbbbbbbbb, 0x33333333, 0x44444444}},
	} {
		checkWords(t, fmt.Sprintf("k %d, mask %#x", c.k, c.mask), slot.Torn(w, l, c.k, c.mask), c.want)
	}
	checkWords(t, "what was given", w, quad{0x11111111, 0x22222222, 0x33333333, 0x44444444})
}

func TestTornOfNoWrites(t *testing.T) { // P12.4, P1
	w := quad{1, 2, 3, 4}
	for _, l := range [][]api.Put{nil, {}} {
		for _, k := range []int{math.MinInt, -1 << 32, -1, 0, 1, 5, 1 << 32, math.MaxInt} {
			for _, mask := range []uint32{0, 1, last} {
				checkWords(t, fmt.Sprintf("no writes, k %d, mask %#x", k, mask), slot.Torn(w, l, k, mask), w)
			}
		}
	}
}

func TestTornEachMask(t *testing.T) { // P12.4: of no bit, of one, of all, of others
	for _, mask := range edges() {
		for at := range 4 {
			for _, old := range edges() {
				w, l := quad{old, old, old, old}, []api.Put{to(at, ^old)}
				want := w
				want[at] ^= mask
				checkWords(t, fmt.Sprintf("%#x torn by %#x", w, mask), slot.Torn(w, l, 0, mask), want)
				l[0].W = old
				checkWords(t, "torn from and to the same", slot.Torn(w, l, 0, mask), w)
			}
		}
	}
}

func TestTornOutside(t *testing.T) { // P12.4: the torn write's At, and one ahead of it
	w := quad{0x11, 0x22, 0x33, 0x44}
	for _, at := range outside() {
		for _, mask := range []uint32{0, 1, 0xff00, last} {
			what := fmt.Sprintf("At %d, mask %#x", at, mask)
			checkWords(t, what, slot.Torn(w, []api.Put{to(at, last)}, 0, mask), w)
			checkWords(t, what, slot.Torn(w, []api.Put{to(at, last), to(0, 5)}, -3, mask), w)
			checkWords(t, what, slot.Torn(w, []api.Put{to(2, 5), to(at, last), to(3, 6)}, 1, mask), quad{0x11, 0x22, 5, 0x44})
			want := quad{0x11, 0x22, 5, 0x44&^mask | 0x600&mask}
			checkWords(t, what, slot.Torn(w, []api.Put{to(2, 5), to(at, last), to(3, 0x600)}, 2, mask), want) // it counts as one of the first k
		}
	}
}

func TestBehindTheLength(t *testing.T) { // P2: neither read nor written
	l := []api.Put{to(0, 5), to(1, 6), to(2, 7), to(3, 8)}
	w := quad{0x11, 0x22, 0x33, 0x44}
	given := slices.Clone(l)
	for n := range len(l) {
		want := modelTorn(w, l[:n], n, 0)
		checkWords(t, "After", slot.After(w, l[:n]...), want)
		for _, k := range []int{n, n + 1, n + 2, math.MaxInt} {
			for _, mask := range []uint32{0, 0xff, last} {
				checkWords(t, fmt.Sprintf("%d writes, k %d, mask %#x", n, k, mask), slot.Torn(w, l[:n], k, mask), want)
			}
		}
	}
	if !slices.Equal(l, given) {
		t.Error("the writes are changed")
	}
}

// TestWrites does many things in an order that a number tells, and holds all of it against the model.
func TestWrites(t *testing.T) { // P12.4
	for seed := range int64(3000) {
		pick := rand.New(rand.NewSource(seed))
		w := quad{pick.Uint32(), pick.Uint32(), pick.Uint32(), pick.Uint32()}
		l := make([]api.Put, pick.Intn(8))
		for i := range l {
			l[i] = to(pick.Intn(7)-1, pick.Uint32())
		}
		given := slices.Clone(l)
		checkWords(t, fmt.Sprintf("seed %d: After", seed), slot.After(w, l...), modelTorn(w, l, len(l), 0))
		for k := -2; k < len(l)+3; k++ {
			mask := pick.Uint32()
			checkWords(t, fmt.Sprintf("seed %d: Torn by %#x at %d", seed, mask, k), slot.Torn(w, l, k, mask), modelTorn(w, l, k, mask))
		}
		if !slices.Equal(l, given) {
			t.Errorf("seed %d: the writes are changed", seed)
		}
	}
}

// checkWhole asks that behind a torn write there is no record, or r, or the one that was there.
func checkWhole(t *testing.T, id int, w quad, r api.Rec, k int, mask uint32) {
	t.Helper()
	old, had := slot.Of(id, w)
	l := slot.Steps(id, w, r)
	torn := slot.Torn(w, l, k, mask)
	got, is := slot.Of(id, torn)
	if is && got != r && (!had || got != old) {
		t.Fatalf("Steps(%d, %#x, %+v) torn by %#x at %d: %#x is %+v", id, w, r, mask, k, torn, got)
	}
	if k >= len(l) || k == len(l)-1 && mask == last {
		checkIs(t, "behind all of the Steps", id, torn, r)
	}
	if k <= 0 && mask == 0 && (got != old || is != had) {
		t.Fatalf("Steps(%d, %#x, %+v) that weren't begun: %#x is %+v, %v", id, w, r, torn, got, is)
	}
	if k > 0 && k < len(l)-1 && is {
		t.Fatalf("Steps(%d, %#x, %+v) torn by %#x at %d: %#x is a record", id, w, r, mask, k, torn)
	}
}

// someWords are words that are a record of id, that are none, and that have the mark alone.
func someWords(id int, r api.Rec) []quad {
	l := []quad{{}, {mark}, {last, last, last, last}, {mark, mark, mark, mark}, {mark, r.Seq}, {mark, r.Seq, r.Value}, {1, 2, 3, 4}}
	for _, old := range recs() {
		w := slot.Words(id, old)
		l = append(l, w, slot.Words(id+1, old))
		w[0] = 0
		l = append(l, w)
		w[0] = mark ^ 1
		l = append(l, w)
		l = append(l, quad{mark, r.Seq, old.Value, w[3]})
	}
	return l
}

func TestWhole(t *testing.T) { // P12.5: for each k and many masks
	for _, id := range []int{7, -1} {
		for _, r := range recs() {
			for _, w := range someWords(id, r) {
				for k := -2; k <= 7; k++ {
					for _, mask := range append(edges(), ^modelCheck(id, r), modelCheck(id, r)) {
						checkWhole(t, id, w, r, k, mask)
					}
				}
			}
		}
	}
}

func TestWholeOfManyRecords(t *testing.T) { // P12.5
	for seed := range int64(3000) {
		pick := rand.New(rand.NewSource(seed))
		id, r := pick.Int()-pick.Int(), rec(pick.Uint32(), pick.Uint32())
		for _, w := range []quad{slot.Words(id, rec(r.Seq-1, pick.Uint32())), {pick.Uint32(), pick.Uint32(), pick.Uint32(), pick.Uint32()}, {mark, pick.Uint32(), pick.Uint32(), pick.Uint32()}} {
			for k := -1; k <= 6; k++ {
				checkWhole(t, id, w, r, k, pick.Uint32())
				checkWhole(t, id, w, r, k, pick.Uint32()|pick.Uint32()|pick.Uint32())
			}
		}
	}
}

// TestWholeOfWhatIsTorn loses the power again and again, each time upon what the time ahead of it left.
func TestWholeOfWhatIsTorn(t *testing.T) { // P12.5
	for seed := range int64(500) {
		pick := rand.New(rand.NewSource(seed))
		w := slot.Words(3, rec(1, 1))
		for n := range uint32(30) {
			r := rec(n, pick.Uint32())
			k, mask := pick.Intn(7)-1, pick.Uint32()|pick.Uint32()|pick.Uint32()
			checkWhole(t, 3, w, r, k, mask)
			w = slot.Torn(w, slot.Steps(3, w, r), k, mask)
		}
		r := rec(31, 31)
		checkIs(t, "the power stays", 3, slot.After(w, slot.Steps(3, w, r)...), r)
	}
}
