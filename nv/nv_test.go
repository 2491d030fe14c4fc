package nv_test

import (
	"fmt"
	"math"
	"math/rand"
	"slices"
	"testing"

	"portreeve/api"
	"portreeve/nv"
)

func cut(after int, mask uint32) api.Cut { return api.Cut{After: after, Mask: mask} }

// edges are words whose bits are all alike, by turns, or single ones at each place.
func edges() []uint32 {
	l := []uint32{0, math.MaxUint32, 0x55555555, 0xaaaaaaaa, 0xff, 0xffff0000, 0x00ffff00, 0x12345678, 0xfffefdfc}
	for i := range 32 {
		l = append(l, 1<<i, ^uint32(1<<i))
	}
	return l
}

// beyond are places at which a store of n words has none.
func beyond(n int) []int {
	return []int{-1, -2, -n, -n - 1, n, n + 1, 2*n + 1, 1 << 31, 1 << 32, 1<<32 + 1, -1 << 31, -1 << 32, math.MaxInt, math.MinInt, math.MinInt + 1}
}

// model is a store as the document words it, a bit at a time.
type model struct {
	words  []uint32
	cuts   []api.Cut
	dead   bool
	writes int
}

func modelOf(words []uint32, cuts []api.Cut) *model {
	return &model{words: slices.Clone(words), cuts: slices.Clone(cuts)}
}

func (m *model) write(i int, w uint32) api.Errno {
	switch {
	case m.dead:
		return api.ErrPower
	case i < 0 || i >= len(m.words):
		return api.ErrRange
	case len(m.cuts) > 0 && m.cuts[0].After == m.writes:
		for bit := range 32 {
			if m.cuts[0].Mask>>bit%2 == 1 {
				m.words[i] = m.words[i]&^(1<<bit) | w>>bit%2<<bit
			}
		}
		m.dead = true
		return api.ErrPower
	}
	m.words[i] = w
	m.writes++
	return api.OK
}

func (m *model) reboot() {
	m.dead, m.writes = false, 0
	if len(m.cuts) > 0 {
		m.cuts = m.cuts[1:]
	}
}

func checkErr(t *testing.T, what string, got, want api.Errno) {
	t.Helper()
	if got != want {
		t.Errorf("%s: error %d, want %d", what, got, want)
	}
}

// checkWords asks for all words, by each of the ways in which a store tells them.
func checkWords(t *testing.T, what string, s *nv.Store, want ...uint32) {
	t.Helper()
	if got := s.Words(); !slices.Equal(got, want) {
		t.Errorf("%s: Words %#x, want %#x", what, got, want)
	}
	if s.Len() != len(want) {
		t.Errorf("%s: Len %d, want %d", what, s.Len(), len(want))
	}
	for i, w := range want {
		if got, e := s.Read(i); got != w || e != api.OK {
			t.Errorf("%s: Read(%d): %#x, error %d, want %#x", what, i, got, e, w)
		}
	}
}

func checkPower(t *testing.T, what string, s *nv.Store, writes int, dead bool) {
	t.Helper()
	if s.Writes() != writes || s.Dead() != dead {
		t.Errorf("%s: Writes %d, Dead %v, want %d, %v", what, s.Writes(), s.Dead(), writes, dead)
	}
}

// checkNoWord asks for places that aren't there, and that to write there changes nothing.
func checkNoWord(t *testing.T, what string, s *nv.Store, write api.Errno) {
	t.Helper()
	words, writes, dead := s.Words(), s.Writes(), s.Dead()
	for _, i := range beyond(s.Len()) {
		if w, e := s.Read(i); w != 0 || e != api.ErrRange {
			t.Errorf("%s: Read(%d) of %d words: %#x, error %d", what, i, s.Len(), w, e)
		}
		checkErr(t, fmt.Sprintf("%s: Write(%d) of %d words", what, i, s.Len()), s.Write(i, 0x77777777), write)
	}
	checkWords(t, what, s, words...)
	checkPower(t, what, s, writes, dead)
}

// written writes the numbers 101, 102 .. to the first word, n of them, each of which must succeed.
func written(t *testing.T, s *nv.Store, n int) {
	t.Helper()
	for i := range n {
		checkErr(t, fmt.Sprintf("Write, time %d", i), s.Write(0, uint32(101+i)), api.OK)
	}
}

// lives asks for n writes that succeed from a reboot on, and no more, after which the power is lost.
func lives(t *testing.T, what string, s *nv.Store, n int) {
	t.Helper()
	checkPower(t, what+", ahead", s, 0, false)
	written(t, s, n)
	checkPower(t, what+", ahead of the cut", s, n, false)
	checkErr(t, what+", at the cut", s.Write(0, 1), api.ErrPower)
	checkPower(t, what+", behind the cut", s, n, true)
}

// livesOn asks for writes that succeed from a reboot on, and for no cut.
func livesOn(t *testing.T, what string, s *nv.Store) {
	t.Helper()
	checkPower(t, what+", ahead", s, 0, false)
	written(t, s, 20)
	checkPower(t, what+", behind", s, 20, false)
}

func TestExample(t *testing.T) { // the chapter's first example
	s := nv.New([]uint32{0, 0}, cut(1, 0xff))
	checkErr(t, "Write", s.Write(0, 5), api.OK)
	checkErr(t, "Write", s.Write(1, 0x1234), api.ErrPower)
	checkWords(t, "the example", s, 5, 0x34)
}

func TestNew(t *testing.T) { // P10.1
	for _, words := range [][]uint32{nil, {}, {0}, {7}, {0, 0}, {1, 2, 3}, edges(), make([]uint32, 4096), make([]uint32, 5000)} {
		for _, cuts := range [][]api.Cut{nil, {}, {cut(0, 0)}, {cut(0, math.MaxUint32)}, {cut(-1, 1)}, {cut(5, 1), cut(0, 2), cut(0, 3)}} {
			s := nv.New(words, cuts...)
			if s == nil {
				t.Fatal("New: nil")
			}
			checkPower(t, "new", s, 0, false)
			checkWords(t, "new", s, words...)
			checkNoWord(t, "new", s, api.ErrRange)
		}
	}
	checkWords(t, "no cut told", nv.New([]uint32{4, 5}), 4, 5)
}

func TestReadAtTheEnds(t *testing.T) { // P10.1
	s := nv.New([]uint32{0x11, 0x22, 0x33})
	for _, c := range []struct {
		i    int
		want uint32
		e    api.Errno
	}{{-1, 0, api.ErrRange}, {0, 0x11, api.OK}, {1, 0x22, api.OK}, {2, 0x33, api.OK}, {3, 0, api.ErrRange}} {
		if w, e := s.Read(c.i); w != c.want || e != c.e {
			t.Errorf("Read(%d): %#x, error %d, want %#x, %d", c.i, w, e, c.want, c.e)
		}
	}
	checkPower(t, "reads", s, 0, false) // no read is a write
}

func TestReadWithoutPower(t *testing.T) { // P10.1: a word is read whether there is power or not
	s := nv.New([]uint32{1, 2, 3}, cut(0, 0))
	checkErr(t, "Write", s.Write(1, 9), api.ErrPower)
	checkPower(t, "behind the cut", s, 0, true)
	checkWords(t, "without power", s, 1, 2, 3)
	checkNoWord(t, "without power", s, api.ErrPower)
}

func TestWriteEachWord(t *testing.T) { // P10.2: that word, and no other one
	for _, n := range []int{1, 2, 5, 17} {
		words := make([]uint32, n)
		for i := range words {
			words[i] = uint32(i + 1)
		}
		s, writes := nv.New(words), 0
		for i := range words {
			for _, w := range edges() {
				checkErr(t, fmt.Sprintf("Write(%d, %#x)", i, w), s.Write(i, w), api.OK)
				words[i], writes = w, writes+1
				checkWords(t, "written", s, words...)
				checkPower(t, "written", s, writes, false)
			}
		}
	}
}

func TestWriteOfTheSameWordIsAWrite(t *testing.T) { // P10.2
	s := nv.New([]uint32{5, 6}, cut(3, 0))
	for i := range 3 {
		checkErr(t, "Write", s.Write(0, 5), api.OK)
		checkPower(t, "the same word", s, i+1, false)
	}
	checkErr(t, "Write", s.Write(0, 5), api.ErrPower)
	checkWords(t, "the same word", s, 5, 6)
}

func TestWriteWhereThereIsNoWord(t *testing.T) { // P10.2, P4: which error comes first, and that it is no write
	s := nv.New([]uint32{1, 2}, cut(2, 0), cut(0, math.MaxUint32))
	checkNoWord(t, "with power", s, api.ErrRange)
	written(t, s, 2)
	checkNoWord(t, "where the cut waits", s, api.ErrRange)
	checkPower(t, "where the cut waits", s, 2, false)
	checkErr(t, "Write", s.Write(1, 9), api.ErrPower)
	checkNoWord(t, "without power", s, api.ErrPower)
	checkWords(t, "without power", s, 102, 2)
	s.Reboot()
	checkNoWord(t, "where the next cut waits", s, api.ErrRange)
	checkErr(t, "Write", s.Write(1, 9), api.ErrPower)
	checkWords(t, "in the end", s, 102, 9)

	none := nv.New(nil, cut(0, math.MaxUint32))
	checkNoWord(t, "no word at all", none, api.ErrRange)
	checkPower(t, "no word at all", none, 0, false)
}

func TestWriteWithoutPower(t *testing.T) { // P10.2: nothing more is written, whatever cuts there are
	for _, cuts := range [][]api.Cut{{cut(1, 0)}, {cut(1, math.MaxUint32)}, {cut(1, 0xf0), cut(1, 0xff)}, {cut(1, 0), cut(0, math.MaxUint32)}} {
		s := nv.New([]uint32{0, 0, 0}, cuts...)
		lives(t, "one write", s, 1)
		words := s.Words()
		for i := range 12 {
			checkErr(t, "Write", s.Write(i%3, math.MaxUint32), api.ErrPower)
			checkWords(t, "without power", s, words...)
			checkPower(t, "without power", s, 1, true)
		}
	}
}

func TestCutAt(t *testing.T) { // P10.2: where After is Writes, there and nowhere else
	for after := range 12 {
		s := nv.New([]uint32{0, 0, 0}, cut(after, 0xff00))
		for i := range after {
			checkErr(t, fmt.Sprintf("After %d, write %d", after, i), s.Write(i%2, uint32(i)), api.OK)
			checkPower(t, "ahead of the cut", s, i+1, false)
		}
		checkErr(t, fmt.Sprintf("After %d, at the cut", after), s.Write(2, 0x12345678), api.ErrPower)
		checkPower(t, "behind the cut", s, after, true)
		if w, e := s.Read(2); w != 0x5600 || e != api.OK {
			t.Errorf("After %d: %#x, error %d", after, w, e)
		}
	}
}

func TestCutNeverReached(t *testing.T) { // P10.2
	for _, after := range []int{math.MinInt, math.MinInt32, -1 << 32, -20, -2, -1, 20, 21, 1 << 31, 1 << 32, 1<<32 + 1, math.MaxInt} {
		s := nv.New([]uint32{0}, cut(after, 0), cut(3, 0))
		livesOn(t, fmt.Sprintf("After %d", after), s)
		s.Reboot()
		lives(t, "the next cut", s, 3)
	}
}

func TestMask(t *testing.T) { // P10.2: which bits are written, which stay
	for _, c := range []struct{ old, w, mask, want uint32 }{
		{0x12345678, 0xaabbccdd, 0, 0x12345678},
		{0x12345678, 0xaabbccdd, math.MaxUint32, 0xaabbccdd},
		{0x12345678, 0xaabbccdd, 0xff, 0x123456dd},
		{0x12345678, 0xaabbccdd, 0xffff0000, 0xaabb5678},
		{0x12345678, 0xaabbccdd, 0x00f0000f, 0x12b4567d},
		{math.MaxUint32, 0, 0x80000001, 0x7ffffffe},
		{0, math.MaxUint32, 0x80000001, 0x80000001},
		{0, 0x1234, 0xff, 0x34},
	} {
		s := nv.New([]uint32{0xcafe, c.old, 0xbabe}, cut(0, c.mask))
		checkErr(t, "Write", s.Write(1, c.w), api.ErrPower)
		checkWords(t, fmt.Sprintf("%+v", c), s, 0xcafe, c.want, 0xbabe)
		checkPower(t, "torn", s, 0, true)
	}
}

func TestMaskEachBit(t *testing.T) { // P10.2, P10.4
	for _, mask := range edges() {
		for _, old := range edges() {
			m, s := modelOf([]uint32{1, old, 2}, []api.Cut{cut(0, mask)}), nv.New([]uint32{1, old, 2}, cut(0, mask))
			checkErr(t, "Write", s.Write(1, ^old), m.write(1, ^old))
			checkWords(t, fmt.Sprintf("%#x over %#x by %#x", ^old, old, mask), s, m.words...)
		}
	}
}

func TestLossSpoilsOneWord(t *testing.T) { // P10.4: at each write, and of each word
	for _, mask := range []uint32{0, 0x0f0f0f0f, math.MaxUint32} {
		for after := range 8 {
			for at := range 4 {
				words := []uint32{0x10101010, 0x20202020, 0x30303030, 0x40404040}
				s := nv.New(words, cut(after, mask))
				for i := range after {
					words[i%4] = uint32(i)
					checkErr(t, "Write", s.Write(i%4, uint32(i)), api.OK)
				}
				checkErr(t, "Write", s.Write(at, 0xfefefefe), api.ErrPower)
				words[at] = words[at]&^mask | 0xfefefefe&mask
				checkWords(t, fmt.Sprintf("After %d, mask %#x, word %d", after, mask, at), s, words...)
				s.Reboot()
				checkWords(t, "behind Reboot", s, words...)
			}
		}
	}
}

func TestRebootWithACutThatStruck(t *testing.T) { // P10.3
	s := nv.New([]uint32{0, 0}, cut(2, 0xff), cut(4, 0), cut(0, 0), cut(1, 0))
	for i, n := range []int{2, 4, 0, 1} {
		lives(t, fmt.Sprintf("cut %d", i), s, n)
		words := s.Words()
		s.Reboot()
		checkPower(t, "behind Reboot", s, 0, false)
		checkWords(t, "behind Reboot", s, words...)
	}
	livesOn(t, "no cut left", s)
}

func TestRebootWithACutThatDidNotStrike(t *testing.T) { // P10.3: it is gone nevertheless
	s := nv.New([]uint32{0}, cut(3, 0), cut(5, 0))
	written(t, s, 2)
	s.Reboot()
	lives(t, "the second cut", s, 5) // it counts from here on, not from New on
	s.Reboot()
	livesOn(t, "no cut left", s)

	s = nv.New([]uint32{0}, cut(0, 0), cut(1, 0))
	s.Reboot() // ahead of any write
	lives(t, "the second cut", s, 1)

	s = nv.New([]uint32{0}, cut(4, 0), cut(2, 0))
	written(t, s, 3) // more than the second cut's After
	s.Reboot()
	lives(t, "the second cut", s, 2)
}

func TestLaterCutsWait(t *testing.T) { // P10.1, P10.2: the first one alone may strike
	s := nv.New([]uint32{0}, cut(9, 0), cut(2, 0), cut(0, 0))
	lives(t, "the first cut", s, 9)
	s.Reboot()
	lives(t, "the second cut", s, 2)
	s.Reboot()
	lives(t, "the third cut", s, 0)
}

func TestNegativeAfterKeepsItsTurn(t *testing.T) { // P10.2, P10.3
	s := nv.New([]uint32{0}, cut(-1, math.MaxUint32), cut(2, 0), cut(math.MinInt, 0), cut(0, 0))
	livesOn(t, "After -1", s)
	s.Reboot()
	lives(t, "After 2", s, 2)
	s.Reboot()
	livesOn(t, "After the least", s)
	s.Reboot()
	lives(t, "After 0", s, 0)
}

func TestRebootWithNoCutLeft(t *testing.T) { // P10.3
	for _, s := range []*nv.Store{nv.New([]uint32{6}), nv.New([]uint32{6}, cut(0, 0))} {
		s.Reboot()
		for range 4 {
			livesOn(t, "no cut left", s)
			checkWords(t, "no cut left", s, 120)
			s.Reboot()
			checkWords(t, "behind Reboot", s, 120)
		}
	}
	none := nv.New(nil)
	none.Reboot()
	checkPower(t, "no word", none, 0, false)
	checkNoWord(t, "no word", none, api.ErrRange)
}

func TestRebootTwice(t *testing.T) { // P10.3: each one takes a cut
	s := nv.New([]uint32{0}, cut(1, 0), cut(2, 0), cut(3, 0), cut(4, 0))
	lives(t, "the first cut", s, 1)
	s.Reboot()
	s.Reboot()
	lives(t, "the third cut", s, 3)
	s.Reboot()
	s.Reboot()
	livesOn(t, "beyond the last cut", s)
	for range 3 {
		s.Reboot()
		checkPower(t, "Reboot upon Reboot", s, 0, false)
	}
	livesOn(t, "beyond the last cut", s)
}

func TestWritesCountsWhatSaidOK(t *testing.T) { // P10.2
	s := nv.New([]uint32{0, 0}, cut(2, 0))
	for _, c := range []struct {
		i      int
		want   api.Errno
		writes int
	}{{2, api.ErrRange, 0}, {1, api.OK, 1}, {-1, api.ErrRange, 1}, {1, api.OK, 2}, {2, api.ErrRange, 2}, {0, api.ErrPower, 2}, {0, api.ErrPower, 2}, {2, api.ErrPower, 2}} {
		checkErr(t, fmt.Sprintf("Write(%d)", c.i), s.Write(c.i, 1), c.want)
		checkPower(t, "counted", s, c.writes, c.want == api.ErrPower)
	}
}

func TestStoreNobodyMade(t *testing.T) { // P10.3, P1
	for _, s := range []*nv.Store{nil, {}, new(nv.Store)} {
		for range 3 {
			checkPower(t, "nobody's", s, 0, true)
			checkWords(t, "nobody's", s)
			checkNoWord(t, "nobody's", s, api.ErrPower)
			checkErr(t, "Write(0)", s.Write(0, 1), api.ErrPower)
			if w, e := s.Read(0); w != 0 || e != api.ErrRange {
				t.Errorf("Read(0): %#x, error %d", w, e)
			}
			s.Reboot() // which makes no store of it
		}
	}
}

func TestStoreOfAValue(t *testing.T) { // P10.3: one that stands in something else is nobody's too
	var in struct {
		nv.Store
		more int
	}
	in.Reboot()
	checkPower(t, "a value", &in.Store, 0, true)
	checkErr(t, "Write", in.Write(0, 1), api.ErrPower)
}

func TestMethodsAsValues(t *testing.T) { // P10.2: power and count, asked through the store
	s := nv.New([]uint32{0}, cut(1, 0))
	var asked interface {
		Writes() int
		Dead() bool
	} = s
	writes, dead, reboot := s.Writes, s.Dead, s.Reboot
	written(t, s, 1)
	if writes() != 1 || dead() || asked.Writes() != 1 || asked.Dead() {
		t.Error("ahead of the cut", writes(), dead(), asked.Writes(), asked.Dead())
	}
	checkErr(t, "Write", s.Write(0, 1), api.ErrPower)
	if writes() != 1 || !dead() || asked.Writes() != 1 || !asked.Dead() {
		t.Error("behind the cut", writes(), dead(), asked.Writes(), asked.Dead())
	}
	reboot()
	if writes() != 0 || dead() || asked.Writes() != 0 || asked.Dead() {
		t.Error("behind Reboot", writes(), dead(), asked.Writes(), asked.Dead())
	}
}

func TestStoresApart(t *testing.T) { // P2, P3: two of the same lists have nothing in common
	words, cuts := []uint32{1, 2}, []api.Cut{cut(1, 0), cut(0, 0)}
	one, other := nv.New(words, cuts...), nv.New(words, cuts...)
	lives(t, "one", one, 1)
	one.Reboot()
	checkPower(t, "the other", other, 0, false)
	checkWords(t, "the other", other, 1, 2)
	lives(t, "the other", other, 1)
	lives(t, "one", one, 0)
}

func TestGivenListsStayAndAreNotKept(t *testing.T) { // P2: whole lists, with what lies behind their lengths
	words, cuts := []uint32{1, 2, 3, 4}, []api.Cut{cut(1, 0xff), cut(2, 0), cut(0, 7)}
	s := nv.New(words[:2], cuts[:2]...)
	checkErr(t, "Write", s.Write(0, 0x1111), api.OK)
	checkErr(t, "Write", s.Write(1, 0x2222), api.ErrPower)
	if !slices.Equal(words, []uint32{1, 2, 3, 4}) || !slices.Equal(cuts, []api.Cut{cut(1, 0xff), cut(2, 0), cut(0, 7)}) {
		t.Errorf("what was given is changed: %#x, %v", words, cuts)
	}
	clear(words)
	clear(cuts)
	checkWords(t, "behind the change", s, 0x1111, 0x22)
	s.Reboot()
	lives(t, "the second cut", s, 2)
	s.Reboot()
	livesOn(t, "no cut left", s) // what lies behind the list's length is none
	checkNoWord(t, "behind the list's length", s, api.ErrRange)
}

func TestCutsOfALaterChange(t *testing.T) { // P2
	cuts := []api.Cut{cut(5, 0), cut(6, 0)}
	s := nv.New([]uint32{0}, cuts...)
	cuts[0], cuts[1] = cut(0, math.MaxUint32), cut(0, math.MaxUint32)
	lives(t, "the first cut", s, 5)
	checkWords(t, "the first cut", s, 105)
	s.Reboot()
	lives(t, "the second cut", s, 6)
}

func TestAnswersShareNothing(t *testing.T) { // P2
	for _, words := range [][]uint32{{}, {1}, {1, 2, 3}, edges()} {
		s := nv.New(words)
		l, other := s.Words(), s.Words()
		l = l[:cap(l)]
		for i := range l {
			l[i] = 0xeeeeeeee
		}
		checkWords(t, "after its answer was changed", s, words...)
		if !slices.Equal(other, words) {
			t.Errorf("another answer: %#x", other)
		}
		if len(words) > 0 {
			checkErr(t, "Write", s.Write(0, 77), api.OK)
			if other[0] != words[0] {
				t.Error("an answer changes with the store")
			}
		}
	}
}

// TestStore does many things in an order that a number tells, and holds all of it against the model.
func TestStore(t *testing.T) { // P10.1 to P10.4
	for seed := range int64(300) {
		pick := rand.New(rand.NewSource(seed))
		words, cuts := make([]uint32, pick.Intn(6)), make([]api.Cut, pick.Intn(8))
		for i := range words {
			words[i] = pick.Uint32()
		}
		for i := range cuts {
			cuts[i] = cut(pick.Intn(8)-1, pick.Uint32()&pick.Uint32())
		}
		m, s := modelOf(words, cuts), nv.New(words, cuts...)
		for n := range 100 {
			if pick.Intn(6) == 0 {
				m.reboot()
				s.Reboot()
			} else {
				i, w := pick.Intn(len(words)+2)-1, pick.Uint32()
				checkErr(t, fmt.Sprintf("seed %d, thing %d: Write(%d, %#x)", seed, n, i, w), s.Write(i, w), m.write(i, w))
			}
			checkWords(t, fmt.Sprintf("seed %d, thing %d", seed, n), s, m.words...)
			checkPower(t, fmt.Sprintf("seed %d, thing %d", seed, n), s, m.writes, m.dead)
		}
	}
}
