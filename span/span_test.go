package span_test

import (
	"fmt"
	"math"
	"math/big"
	"slices"
	"testing"

	"portreeve/api"
	"portreeve/span"
)

const (
	last = math.MaxUint64
	half = 1 << 63
)

func sp(base, size uint64) api.Span { return api.Span{Base: base, Size: size} }

// numbers are those at whose edges sums of a base and a size go wrong.
func numbers() []uint64 {
	return []uint64{0, 1, 2, 3, 4095, 4096, 4097, 8192, half - 4096, half - 1, half, half + 1, half + 4096,
		last - 8191, last - 4096, last - 4095, last - 4094, last - 2, last - 1, last}
}

// edges are all spans of those numbers.
func edges() []api.Span {
	var l []api.Span
	for _, base := range numbers() {
		for _, size := range numbers() {
			l = append(l, sp(base, size))
		}
	}
	return l
}

// ends answers a span's first address and the one behind its last, as numbers that don't wrap, and whether it may be.
func ends(s api.Span) (lo, hi *big.Int, good bool) {
	lo = new(big.Int).SetUint64(s.Base)
	hi = new(big.Int).Add(lo, new(big.Int).SetUint64(s.Size))
	all := new(big.Int).Lsh(big.NewInt(1), 64)
	return lo, hi, s.Size > 0 && hi.Cmp(all) <= 0
}

func TestGood(t *testing.T) { // P2.1
	for _, s := range edges() {
		_, hi, want := ends(s)
		end := uint64(0)
		if want {
			end = hi.Sub(hi, big.NewInt(1)).Uint64()
		}
		if got := span.Good(s); got != want {
			t.Errorf("Good(%v) = %v", s, got)
		}
		if got := span.Last(s); got != end {
			t.Errorf("Last(%v) = %v, want %v", s, got, end)
		}
	}
}

func TestGoodExamples(t *testing.T) { // P2.1
	for _, c := range []struct {
		s    api.Span
		good bool
		last uint64
	}{
		{sp(last, 1), true, last}, {sp(last, 2), false, 0}, {sp(last, 0), false, 0},
		{sp(0, 0), false, 0}, {sp(0, 1), true, 0}, {sp(0, last), true, last - 1},
		{sp(1, last), true, last}, {sp(2, last), false, 0}, {sp(half, half), true, last},
		{sp(half, half+1), false, 0}, {sp(half+1, half), false, 0}, {sp(10, 5), true, 14},
	} {
		if span.Good(c.s) != c.good || span.Last(c.s) != c.last {
			t.Errorf("%v: Good %v, Last %v", c.s, span.Good(c.s), span.Last(c.s))
		}
	}
}

func TestHas(t *testing.T) { // P2.2
	for _, s := range edges() {
		lo, hi, good := ends(s)
		for _, at := range numbers() {
			n := new(big.Int).SetUint64(at)
			want := good && lo.Cmp(n) <= 0 && n.Cmp(hi) < 0
			if got := span.Has(s, at); got != want {
				t.Errorf("Has(%v, %v) = %v", s, at, got)
			}
		}
	}
}

func TestTwo(t *testing.T) { // P2.2
	for _, a := range edges() {
		alo, ahi, agood := ends(a)
		for _, b := range edges() {
			blo, bhi, bgood := ends(b)
			both := agood && bgood
			if got := span.Within(a, b); got != (both && alo.Cmp(blo) >= 0 && ahi.Cmp(bhi) <= 0) {
				t.Errorf("Within(%v, %v) = %v", a, b, got)
			}
			if got := span.Overlap(a, b); got != (both && alo.Cmp(bhi) < 0 && blo.Cmp(ahi) < 0) {
				t.Errorf("Overlap(%v, %v) = %v", a, b, got)
			}
		}
	}
}

func TestPages(t *testing.T) { // P2.2
	page := sp(4096, 8192)
	for _, s := range edges() {
		_, _, want := ends(s)
		want = want && s.Base%4096 == 0 && s.Size%4096 == 0
		for _, l := range [][]api.Span{{s}, {page, s}, {s, page}} {
			if got := span.Pages(l...); got != want {
				t.Errorf("Pages(%v) = %v", l, got)
			}
		}
	}
	if !span.Pages() || !span.Pages([]api.Span{}...) {
		t.Error("of no spans each is as it must be")
	}
	if !span.Pages(sp(last-4095, 4096), sp(0, half)) {
		t.Error("pages up to 2^64")
	}
}

func TestFirst(t *testing.T) { // P2.3
	for _, c := range []struct {
		l    []api.Span
		i, j int
		is   bool
	}{
		{nil, 0, 0, false},
		{[]api.Span{}, 0, 0, false},
		{[]api.Span{sp(0, 9)}, 0, 0, false},
		{[]api.Span{sp(0, 4), sp(4, 4)}, 0, 0, false},
		{[]api.Span{sp(4, 4), sp(0, 4), sp(8, 1)}, 0, 0, false},
		{[]api.Span{sp(0, 4), sp(3, 4)}, 0, 1, true},
		{[]api.Span{sp(3, 4), sp(0, 4)}, 0, 1, true},
		{[]api.Span{sp(5, 1), sp(5, 1)}, 0, 1, true},
		// The least j is ahead of the least i.
		{[]api.Span{sp(0, 10), sp(20, 10), sp(25, 1), sp(5, 1)}, 1, 2, true},
		{[]api.Span{sp(20, 10), sp(0, 10), sp(5, 20)}, 0, 2, true},
		// Such as aren't Good clash with nothing, and count among the places.
		{[]api.Span{sp(0, 0), sp(0, 0)}, 0, 0, false},
		{[]api.Span{sp(last, 2), sp(last, 2), sp(last, 1)}, 0, 0, false},
		{[]api.Span{sp(last, 2), sp(1, last), sp(5, 0), sp(last, 1)}, 1, 3, true},
		{[]api.Span{sp(half, half), sp(0, half), sp(last, 1)}, 0, 2, true},
	} {
		if i, j, is := span.First(c.l...); i != c.i || j != c.j || is != c.is {
			t.Errorf("First(%v) = %v, %v, %v; want %v, %v, %v", c.l, i, j, is, c.i, c.j, c.is)
		}
	}
}

func TestFirstOfMany(t *testing.T) { // P2.3
	var l []api.Span
	for i := range uint64(20000) {
		l = append(l, sp(i*7919%20000*10, 10))
	}
	if i, j, is := span.First(l...); i != 0 || j != 0 || is {
		t.Error("spans that touch:", i, j, is)
	}
	l[19990].Size = 11
	wi, wj, _ := pairs(l)
	if i, j, is := span.First(l...); i != wi || j != wj || !is || j == 0 {
		t.Error("one that reaches too far:", i, j, is, "want", wi, wj)
	}
}

func TestMerge(t *testing.T) { // P2.4
	all := []api.Span{sp(0, half), sp(half, half)}
	for _, c := range []struct{ l, want []api.Span }{
		{nil, nil},
		{[]api.Span{}, nil},
		{[]api.Span{sp(0, 4), sp(4, 4), sp(10, 1)}, []api.Span{sp(0, 8), sp(10, 1)}},
		{[]api.Span{sp(10, 1), sp(4, 4), sp(0, 4)}, []api.Span{sp(0, 8), sp(10, 1)}},
		{[]api.Span{sp(0, 100), sp(10, 5), sp(50, 5)}, []api.Span{sp(0, 100)}},
		{[]api.Span{sp(5, 1), sp(5, 1)}, []api.Span{sp(5, 1)}},
		{[]api.Span{sp(5, 0), sp(last, 2), sp(7, last)}, nil},
		{[]api.Span{sp(5, 0), sp(8, 2), sp(last, 2)}, []api.Span{sp(8, 2)}},
		{[]api.Span{sp(last, 1)}, []api.Span{sp(last, 1)}},
		{[]api.Span{sp(last, 1), sp(last-1, 1), sp(0, 1)}, []api.Span{sp(0, 1), sp(last-1, 2)}},
		{[]api.Span{sp(0, last)}, []api.Span{sp(0, last)}},
		{[]api.Span{sp(1, last)}, []api.Span{sp(1, last)}},
		{[]api.Span{sp(1, last), sp(0, 1)}, all},
		{[]api.Span{sp(0, last), sp(last, 1)}, all},
		{[]api.Span{sp(0, last), sp(1, last)}, all},
		{[]api.Span{sp(0, half), sp(half, half)}, all},
		{[]api.Span{sp(half, half), sp(0, half-1), sp(half-1, 1), sp(3, 4)}, all},
		{[]api.Span{sp(half, half), sp(0, half-1)}, []api.Span{sp(0, half-1), sp(half, half)}},
	} {
		if got := span.Merge(c.l...); !slices.Equal(got, c.want) {
			t.Errorf("Merge(%v) = %v, want %v", c.l, got, c.want)
		}
	}
}

func TestCut(t *testing.T) { // P2.4
	for _, c := range []struct {
		s       api.Span
		l, want []api.Span
	}{
		{sp(0, 10), []api.Span{sp(2, 3)}, []api.Span{sp(0, 2), sp(5, 5)}},
		{sp(0, 10), nil, []api.Span{sp(0, 10)}},
		{sp(0, 10), []api.Span{}, []api.Span{sp(0, 10)}},
		{sp(5, 0), nil, nil},
		{sp(last, 2), nil, nil},
		{sp(last, 2), []api.Span{sp(0, 3)}, nil},
		{sp(0, 10), []api.Span{sp(2, 0), sp(last, 2), sp(5, last)}, []api.Span{sp(0, 10)}},
		{sp(5, 5), []api.Span{sp(0, 5), sp(10, 5)}, []api.Span{sp(5, 5)}},
		{sp(5, 5), []api.Span{sp(9, 9), sp(0, 6)}, []api.Span{sp(6, 3)}},
		{sp(5, 5), []api.Span{sp(0, 20)}, nil},
		{sp(5, 5), []api.Span{sp(8, 2), sp(5, 3)}, nil},
		{sp(0, 10), []api.Span{sp(6, 1), sp(2, 1)}, []api.Span{sp(0, 2), sp(3, 3), sp(7, 3)}},
		{sp(0, last), nil, []api.Span{sp(0, last)}},
		{sp(1, last), []api.Span{sp(half, 1)}, []api.Span{sp(1, half-1), sp(half+1, half-1)}},
		{sp(last, 1), []api.Span{sp(0, last)}, []api.Span{sp(last, 1)}},
		{sp(0, last), []api.Span{sp(1, last)}, []api.Span{sp(0, 1)}},
		{sp(1, last), []api.Span{sp(1, last-1)}, []api.Span{sp(last, 1)}},
		{sp(1, last), []api.Span{sp(0, half), sp(half, half)}, nil},
	} {
		if got := span.Cut(c.s, c.l...); !slices.Equal(got, c.want) {
			t.Errorf("Cut(%v, %v) = %v, want %v", c.s, c.l, got, c.want)
		}
		if got, want := span.Covers(c.s, c.l...), span.Good(c.s) && len(c.want) == 0; got != want {
			t.Errorf("Covers(%v, %v) = %v", c.s, c.l, got)
		}
	}
}

// world is a few addresses from a base on, each of which a model of sets can ask.
type world struct {
	base  uint64
	wide  int
	spans []api.Span
}

// worlds lie at either end of the addresses; in the upper one some spans would end behind 2^64.
func worlds() []world {
	var l []world
	for _, w := range []world{{base: 0, wide: 9}, {base: last - 4, wide: 5}} {
		for base := range uint64(5) {
			for size := range uint64(6) {
				w.spans = append(w.spans, sp(w.base+base, size))
			}
		}
		l = append(l, w)
	}
	return l
}

// set tells of each address of a world whether a Good one of l has it.
func (w world) set(l ...api.Span) []bool {
	in := make([]bool, w.wide)
	for _, s := range l {
		from := s.Base - w.base
		if to := from + s.Size; to <= uint64(w.wide) {
			for at := from; at < to; at++ {
				in[at] = true
			}
		}
	}
	return in
}

// told answers a set as spans, rising and as few as can be.
func (w world) told(in []bool) []api.Span {
	var l []api.Span
	for at, is := range in {
		if is && at > 0 && in[at-1] {
			l[len(l)-1].Size++
		} else if is {
			l = append(l, sp(w.base+uint64(at), 1))
		}
	}
	return l
}

func TestSets(t *testing.T) { // P2.4, P2.5
	for _, w := range worlds() {
		for _, a := range w.spans {
			for _, b := range w.spans {
				for _, c := range w.spans {
					w.check(t, a, b, c)
				}
			}
		}
	}
}

func (w world) check(t *testing.T, s api.Span, l ...api.Span) {
	own, taken := w.set(s), w.set(l...)
	var left []bool
	for at, is := range own {
		left = append(left, is && !taken[at])
	}
	want := w.told(left)
	cut := span.Cut(s, l...)
	if !slices.Equal(cut, want) {
		t.Errorf("Cut(%v, %v) = %v, want %v", s, l, cut, want)
	}
	if got := span.Covers(s, l...); got != (slices.Contains(own, true) && len(want) == 0) {
		t.Errorf("Covers(%v, %v) = %v", s, l, got)
	}
	three := append([]api.Span{s}, l...)
	merged := span.Merge(three...)
	if want := w.told(w.set(three...)); !slices.Equal(merged, want) {
		t.Errorf("Merge(%v) = %v, want %v", three, merged, want)
	}
	for at := range w.wide {
		is := func(p api.Span) bool { return span.Has(p, w.base+uint64(at)) }
		if slices.ContainsFunc(merged, is) != slices.ContainsFunc(three, is) {
			t.Errorf("Merge(%v) and the address %v", three, at)
		}
		if slices.ContainsFunc(cut, is) != (is(s) && !slices.ContainsFunc(l, is)) {
			t.Errorf("Cut(%v, %v) and the address %v", s, l, at)
		}
	}
}

// pairs answers the first clash as P2.3 words it, pair by pair.
func pairs(l []api.Span) (int, int, bool) {
	for j := range l {
		for i := range j {
			if span.Overlap(l[i], l[j]) {
				return i, j, true
			}
		}
	}
	return 0, 0, false
}

func TestFirstInWorlds(t *testing.T) { // P2.3
	for _, w := range worlds() {
		for _, a := range w.spans {
			for _, b := range w.spans {
				for _, c := range w.spans {
					for _, l := range [][]api.Span{{a, b, c}, {a, sp(w.base+1, 1), b, c}} {
						gi, gj, got := span.First(l...)
						if i, j, want := pairs(l); gi != i || gj != j || got != want {
							t.Fatalf("First(%v) = %v, %v, %v; want %v, %v, %v", l, gi, gj, got, i, j, want)
						}
					}
				}
			}
		}
	}
}

// TestGiven holds what the calls are given against what it was: order, and what lies behind the length.
func TestGiven(t *testing.T) { // P2, P3
	whole := []api.Span{sp(30, 5), sp(10, 5), sp(32, 1), sp(14, 2), sp(0, 0), sp(1, 99), sp(7, 7)}
	had := slices.Clone(whole)
	l := whole[:5]
	for range 2 {
		merged, cut := span.Merge(l...), span.Cut(sp(0, 40), l...)
		if got, want := fmt.Sprint(merged, cut), "[{10 6} {30 5}] [{0 10} {16 14} {35 5}]"; got != want {
			t.Errorf("%v, want %v", got, want)
		}
		if i, j, is := span.First(l...); i != 0 || j != 2 || !is {
			t.Error("First:", i, j, is)
		}
		if span.Covers(sp(0, 40), l...) || !span.Covers(sp(11, 5), l...) || span.Pages(l...) {
			t.Error("Covers or Pages")
		}
		for _, got := range [][]api.Span{merged, cut} {
			clear(got[:cap(got)])
		}
		if !slices.Equal(whole, had) {
			t.Fatal("changed:", whole)
		}
	}
}

// TestOneSpan: an answer that is just what was given is new memory too.
func TestOneSpan(t *testing.T) { // P2
	l := []api.Span{sp(5, 5)}
	for _, got := range [][]api.Span{span.Merge(l...), span.Cut(l[0], l[:0]...)} {
		got[0].Base = 77
		if l[0] != sp(5, 5) {
			t.Fatal("an answer shares memory with what was given")
		}
	}
}
