package room_test

import (
	"fmt"
	"math"
	"math/big"
	"math/rand"
	"reflect"
	"slices"
	"testing"

	"portreeve/api"
	"portreeve/room"
)

// modelAt is P16.2, asked in numbers that don't wrap.
func modelAt(l []api.Map, ipa uint64) (api.Map, uint64, bool) {
	at := new(big.Int).SetUint64(ipa)
	for _, m := range l {
		if lo, hi, good := bounds(m.IPA, m.Size); good && lo.Cmp(at) <= 0 && at.Cmp(hi) < 0 {
			pa := new(big.Int).SetUint64(m.PA)
			pa.Add(pa, at).Sub(pa, lo)
			return m, pa.Mod(pa, new(big.Int).Lsh(big.NewInt(1), 64)).Uint64(), true
		}
	}
	return api.Map{}, 0, false
}

// checkAt asks for that part of l and that address; a place of -1 is none.
func checkAt(t *testing.T, what string, l []api.Map, ipa uint64, place int, pa uint64) {
	t.Helper()
	var want api.Map
	if place >= 0 {
		want = l[place]
	}
	m, at, is := room.At(l, ipa)
	if m != want || at != pa || is != (place >= 0) {
		t.Errorf("%s: At(%v, %#x) = %v, %#x, %v; want %v, %#x", what, l, ipa, m, at, is, want, pa)
	}
	if wm, wat, wis := modelAt(l, ipa); m != wm || at != wat || is != wis {
		t.Errorf("%s: At(%v, %#x) = %v, %#x, %v; the model has %v, %#x, %v", what, l, ipa, m, at, is, wm, wat, wis)
	}
}

func TestAt(t *testing.T) { // P16.2
	checkAt(t, "no parts", nil, 0, -1, 0)
	checkAt(t, "no parts", []api.Map{}, last, -1, 0)
	l := []api.Map{part(0x1000, 0x80000000, 0x2000, 5, 0), part(0x5000, 0x9000, page, 3, 1), part(0x3000, 0x7000, page, 2, 0)}
	for _, c := range []struct {
		what  string
		ipa   uint64
		place int
		pa    uint64
	}{
		{"far ahead", 0, -1, 0},
		{"just ahead", 0xfff, -1, 0},
		{"the first", 0x1000, 0, 0x80000000},
		{"in the midst", 0x1abc, 0, 0x80000abc},
		{"the last", 0x2fff, 0, 0x80001fff},
		{"just behind, where another begins", 0x3000, 2, 0x7000},
		{"the last of that", 0x3fff, 2, 0x7fff},
		{"between", 0x4000, -1, 0},
		{"between", 0x4fff, -1, 0},
		{"the first of a device", 0x5000, 1, 0x9000},
		{"the last of a device", 0x5fff, 1, 0x9fff},
		{"just behind", 0x6000, -1, 0},
		{"a PA is no IPA", 0x9000, -1, 0},
		{"the last there is", last, -1, 0},
	} {
		checkAt(t, c.what, l, c.ipa, c.place, c.pa)
	}
}

func TestAtOverlapping(t *testing.T) { // P16.2: the first one counts, wherever it begins
	l := []api.Map{part(0x3000, 0x100000, 0x2000, 1, 0), part(0, 0x200000, 0x9000, 2, 1), part(0x3000, 0x300000, 0x7000, 4, 0)}
	checkAt(t, "the second alone", l, 0x2fff, 1, 0x202fff)
	checkAt(t, "all three", l, 0x3000, 0, 0x100000)
	checkAt(t, "all three", l, 0x4fff, 0, 0x101fff)
	checkAt(t, "the second and the third", l, 0x5000, 1, 0x205000)
	checkAt(t, "the third alone", l, 0x9000, 2, 0x306000)
	same := []api.Map{part(0, 7, page, 1, 0), part(0, 8, page, 1, 0)}
	checkAt(t, "at one IPA", same, 1, 0, 8)
}

func TestAtWraps(t *testing.T) { // P16.2: the address is told modulo 2^64
	l := []api.Map{part(0x1000, last-1, 0x2000, 1, 0), part(last-9, last-9, 10, 9, 9)}
	checkAt(t, "ahead of 2^64", l, 0x1001, 0, last)
	checkAt(t, "at 2^64", l, 0x1002, 0, 0)
	checkAt(t, "beyond 2^64", l, 0x2fff, 0, 0x1ffd)
	checkAt(t, "the last there is", l, last, 1, last)
	checkAt(t, "the first of the last", l, last-9, 1, last-9)
	wide := []api.Map{part(1, half+5, last, 1, 0)}
	checkAt(t, "all but the first", wide, last, 0, half+3)
	checkAt(t, "all but the first", wide, 0, -1, 0)
}

// TestAtBad: a span that may not be has no address, not even its first, and those behind it are asked.
func TestAtBad(t *testing.T) { // P16.2
	l := []api.Map{part(0x1000, 0, 0, 1, 0), part(last-4, 0, 6, 1, 0), part(0x1000, 0x70, 1, 1, 0), part(last, 0x90, 1, 1, 0)}
	checkAt(t, "behind a Size of 0", l, 0x1000, 2, 0x70)
	checkAt(t, "behind one that ends beyond 2^64", l, last, 3, 0x90)
	checkAt(t, "of one that ends beyond 2^64", l, last-4, -1, 0)
	checkAt(t, "of one that ends beyond 2^64", l, 0, -1, 0)
}

func TestAtEdges(t *testing.T) { // P16.2
	for _, ipa := range edges() {
		for _, size := range edges() {
			l := []api.Map{part(ipa, half+7, size, -1, 5)}
			for _, at := range edges() {
				wm, wat, wis := modelAt(l, at)
				if m, pa, is := room.At(l, at); m != wm || pa != wat || is != wis {
					t.Errorf("At(%v, %#x) = %v, %#x, %v; want %v, %#x, %v", l, at, m, pa, is, wm, wat, wis)
				}
			}
		}
	}
}

// modelGood is P16.2, asked in numbers that don't wrap.
func modelGood(l []api.Map) bool {
	ahead, most := new(big.Int), new(big.Int).Lsh(big.NewInt(1), 40)
	for _, m := range l {
		lo, hi, _ := bounds(m.IPA, m.Size)
		_, phi, _ := bounds(m.PA, m.Size)
		if m.IPA%page+m.PA%page+m.Size%page != 0 || m.Size == 0 || hi.Cmp(most) > 0 || phi.Cmp(most) > 0 {
			return false
		}
		if m.Perm < 1 || m.Perm > 7 || m.Kind < 0 || m.Kind > 1 || lo.Cmp(ahead) < 0 {
			return false
		}
		ahead = hi
	}
	return true
}

// checkGood holds Good of those parts against what is asked, and against the model.
func checkGood(t *testing.T, what string, want bool, l ...api.Map) {
	t.Helper()
	if got := room.Good(l); got != want || got != modelGood(l) {
		t.Errorf("%s: Good(%v) = %v; the model has %v", what, l, got, modelGood(l))
	}
}

// checkPart asks it of a part alone, and behind and ahead of others that may be.
func checkPart(t *testing.T, what string, want bool, m api.Map) {
	t.Helper()
	checkGood(t, what, want, m)
	checkGood(t, what+", behind another", want, part(0, 0, page, 1, 0), m)
	checkGood(t, what+", ahead of another", want && m.IPA+m.Size < top, m, part(top-page, 0, page, 1, 0))
}

func TestGood(t *testing.T) { // P16.2
	checkGood(t, "no parts", true)
	if !room.Good(nil) || !room.Good([]api.Map{}) {
		t.Error("of no parts each is as it must be")
	}
	m := part(0x4000, 0x8000, 0x2000, 3, 0)
	checkPart(t, "as it must be", true, m)
	for _, off := range []uint64{1, 2, 8, 2048, page - 1, page + 1} {
		checkPart(t, "IPA beside a page", false, part(m.IPA+off, m.PA, m.Size, 3, 0))
		checkPart(t, "PA beside a page", false, part(m.IPA, m.PA+off, m.Size, 3, 0))
		checkPart(t, "Size beside a page", false, part(m.IPA, m.PA, m.Size+off, 3, 0))
		checkPart(t, "IPA ahead of a page", false, part(m.IPA+page-off, m.PA, m.Size, 3, 0))
		checkPart(t, "PA ahead of a page", false, part(m.IPA, m.PA-off, m.Size, 3, 0))
		checkPart(t, "Size ahead of a page", false, part(m.IPA, m.PA, m.Size-off, 3, 0))
		checkPart(t, "all beside a page", false, part(m.IPA+off, m.PA+off, off, 3, 0))
	}
	checkPart(t, "a Size of 0", false, part(m.IPA, m.PA, 0, 3, 0))
	checkGood(t, "a Size of 0 at 0", false, part(0, 0, 0, 3, 0))
	checkGood(t, "the zero part", false, api.Map{})
	checkGood(t, "one page at 0", true, part(0, 0, page, 1, 0))
}

func TestGoodTop(t *testing.T) { // P16.2
	for _, c := range []struct {
		what          string
		ipa, pa, size uint64
		want          bool
	}{
		{"IPA + Size of 2^40", top - page, page, page, true},
		{"IPA + Size of 2^40 and a page", top - page, page, 2 * page, false},
		{"IPA of 2^40", top, page, page, false},
		{"PA + Size of 2^40", page, top - page, page, true},
		{"PA + Size of 2^40 and a page", page, top - page, 2 * page, false},
		{"PA of 2^40", page, top, page, false},
		{"both 2^40", page, page, top - page, true},
		{"both, IPA a page more", 2 * page, page, top - page, false},
		{"both, PA a page more", page, 2 * page, top - page, false},
		{"a Size of 2^40", page, page, top, false},
		{"IPA + Size wraps", last - page + 1, page, 2 * page, false},
		{"IPA + Size wraps to 0", last - page + 1, page, page, false},
		{"PA + Size wraps", page, last - page + 1, 2 * page, false},
		{"PA + Size wraps to 0", page, last - page + 1, page, false},
		{"both wrap", last - page + 1, last - page + 1, 3 * page, false},
		{"a Size up to 2^64", page, page, last - page + 1, false},
		{"halves", half, page, page, false},
		{"halves", page, half, page, false},
		{"halves", page, page, half, false},
	} {
		checkGood(t, c.what, c.want, part(c.ipa, c.pa, c.size, 7, 1))
		checkGood(t, c.what+", behind another", c.want, part(0, 0, page, 1, 0), part(c.ipa, c.pa, c.size, 7, 1))
	}
	checkGood(t, "all of it", true, part(0, 0, top, 7, 0))
	checkGood(t, "all of it and a page", false, part(0, 0, top+page, 7, 0))
}

func TestGoodNumbers(t *testing.T) { // P16.2
	for _, c := range []struct {
		perm int
		want bool
	}{
		{-1, false}, {0, false}, {1, true}, {2, true}, {3, true}, {4, true}, {5, true}, {6, true}, {7, true}, {8, false}, {9, false}, {15, false},
		{-7, false}, {math.MinInt, false}, {math.MinInt + 1, false}, {math.MaxInt, false}, {1 << 32, false}, {1<<32 + 1, false},
	} {
		checkPart(t, fmt.Sprint("Perm ", c.perm), c.want, part(0x4000, 0x8000, page, c.perm, 0))
		checkPart(t, fmt.Sprint("Perm ", c.perm), c.want, part(0x4000, 0x8000, page, c.perm, 1))
	}
	for _, c := range []struct {
		kind int
		want bool
	}{
		{-1, false}, {0, true}, {1, true}, {2, false}, {3, false}, {math.MinInt, false}, {math.MaxInt, false}, {1 << 32, false}, {1<<32 + 1, false},
	} {
		checkPart(t, fmt.Sprint("Kind ", c.kind), c.want, part(0x4000, 0x8000, page, 1, c.kind))
		checkPart(t, fmt.Sprint("Kind ", c.kind), c.want, part(0x4000, 0x8000, page, 7, c.kind))
	}
}

func TestGoodOrder(t *testing.T) { // P16.2
	a := part(0x4000, 0x10000, 0x2000, 1, 0)
	for _, c := range []struct {
		what string
		ipa  uint64
		want bool
	}{
		{"at the end of the one ahead", 0x6000, true},
		{"a page ahead of that end", 0x5000, false},
		{"at one IPA", 0x4000, false},
		{"ahead of the one ahead", 0x3000, false},
		{"at 0", 0, false},
		{"a page behind that end", 0x7000, true},
		{"at the last page", top - page, true},
	} {
		checkGood(t, c.what, c.want, a, part(c.ipa, 0x20000, page, 1, 0))
		checkGood(t, c.what+", of the same PA", c.want, a, part(c.ipa, 0x10000, page, 1, 0))
		checkGood(t, c.what+", of a PA that is ahead", c.want, a, part(c.ipa, 0, page, 1, 1))
	}
	touching := []api.Map{part(0, 0, page, 1, 0), part(page, 0, 2*page, 2, 1), part(3*page, 0, page, 4, 0), part(4*page, top-page, page, 7, 0)}
	checkGood(t, "four that touch", true, touching...)
	for i := range touching {
		spoilt := slices.Clone(touching)
		spoilt[i].Perm = 8
		checkGood(t, "one that may not be", false, spoilt...)
		spoilt = slices.Clone(touching)
		spoilt[i].Size += page
		checkGood(t, "one that is a page longer", false, spoilt...)
		if i > 0 {
			spoilt = slices.Clone(touching)
			spoilt[i], spoilt[i-1] = spoilt[i-1], spoilt[i]
			checkGood(t, "two that have changed places", false, spoilt...)
		}
	}
	checkGood(t, "behind the end of one further ahead", false, part(0, 0, 8*page, 1, 0), part(8*page, 0, page, 1, 0), part(4*page, 0, page, 1, 0))
}

func TestGoodRandom(t *testing.T) { // P16.2
	r := rand.New(rand.NewSource(162))
	numbers := append(edges(), top, top-1, top+1, top-page, top+page, 2*page, 3*page, 4*page)
	pick := func() uint64 { return numbers[r.Intn(len(numbers))] }
	for range 50000 {
		m := part(pick(), pick(), pick(), r.Intn(12)-2, r.Intn(4)-1)
		if got := room.Good([]api.Map{m}); got != modelGood([]api.Map{m}) {
			t.Fatalf("Good of %v is %v", m, got)
		}
	}
	good := 0
	for range 50000 {
		var l []api.Map
		for at := uint64(0); len(l) < r.Intn(6); {
			size := uint64(r.Intn(3) + 1)
			l = append(l, part(at*page, uint64(r.Intn(9))*page, size*page, 1+r.Intn(7), r.Intn(2)))
			at += size + uint64(r.Intn(20)/10) - uint64(r.Intn(20)/19)
		}
		want := modelGood(l)
		if got := room.Good(l); got != want {
			t.Fatalf("Good of %v is %v", l, got)
		}
		if want && len(l) > 2 {
			good++
		}
	}
	if good < 1000 {
		t.Error("too few that are Good:", good)
	}
}

func modelPhysical(c api.Config, g int) []api.Span {
	var l []api.Span
	for i, guest := range c.Guests {
		for _, w := range guest.Windows {
			if i == g {
				l = append(l, sp(w.PA, w.Size))
			}
		}
		for _, d := range guest.Devices {
			if i == g {
				l = append(l, sp(d.PA, d.Size))
			}
		}
	}
	return l
}

func modelShared(c api.Config, g int) []api.Span {
	var l []api.Span
	for i := range c.Guests {
		for _, ch := range c.Channels {
			switch {
			case i != g:
			case ch.Ends[0].Guest == g, ch.Ends[1].Guest == g:
				l = append(l, sp(ch.PA, ch.Size))
			}
		}
	}
	return l
}

func checkSpans(t *testing.T, what string, got []api.Span, want ...api.Span) {
	t.Helper()
	if !slices.Equal(got, want) {
		t.Errorf("%s: %v, want %v", what, got, want)
	}
}

// mixed is a system of three guests with parts of all kinds, of which some may not be.
func mixed() api.Config {
	return api.Config{
		Guests: []api.Guest{
			{Windows: []api.Window{window(0x9000, 0x30000, page, 1)}},
			{
				Windows: []api.Window{window(0x9000, 0x50000, page, 1), window(0x1000, 0x40000, 0x2000, 7), window(0x20000, 0x50000, page, 2)},
				Devices: []api.Dev{dev(0x70000, 0x90000, page), dev(0x60000, 0x10000, 0x3000)},
			},
			{Devices: []api.Dev{dev(0, 5, 0), dev(0, last, 2)}, Windows: []api.Window{window(1, 7, 0, 9)}},
		},
		Channels: []api.Channel{
			channel(0x80000, page, end(1, 1, 0x100000), end(0, 1, 0x100000)),
			channel(0x20000, 0x4000, end(2, 2, 0x200000), end(1, 3, 0x200000)),
			channel(0x60000, page, end(2, 1, 0x300000), end(0, 1, 0x300000)),
			channel(0xa0000, 0x5000, end(1, 1, 0x400000), end(1, 6, 0x500000)),
			channel(0xb0000, page, end(7, 1, 0x600000), end(-1, 1, 0x600000)),
		},
	}
}

func TestPhysical(t *testing.T) { // P16.3: as they are named, not by their addresses
	c := mixed()
	checkSpans(t, "one window", room.Physical(c, 0), sp(0x30000, page))
	checkSpans(t, "windows, then devices", room.Physical(c, 1), sp(0x50000, page), sp(0x40000, 0x2000), sp(0x50000, page), sp(0x90000, page), sp(0x10000, 0x3000))
	checkSpans(t, "such as may not be", room.Physical(c, 2), sp(7, 0), sp(5, 0), sp(last, 2))
	checkSpans(t, "devices alone", room.Physical(one(nil, []api.Dev{dev(3, 2, 1), dev(6, 5, 4)}), 0), sp(2, 1), sp(5, 4))
	checkSpans(t, "nothing", room.Physical(one(nil, nil, channel(0, page, end(0, 1, 0), end(0, 1, page))), 0))
	for _, g := range none(3) {
		checkSpans(t, fmt.Sprint("guest ", g), room.Physical(c, g))
	}
	checkSpans(t, "no guests", room.Physical(api.Config{}, 0))
}

func TestShared(t *testing.T) { // P16.3: as they are named, each once
	c := mixed()
	checkSpans(t, "the second end", room.Shared(c, 0), sp(0x80000, page), sp(0x60000, page))
	checkSpans(t, "each end, and both", room.Shared(c, 1), sp(0x80000, page), sp(0x20000, 0x4000), sp(0xa0000, 0x5000))
	checkSpans(t, "the first end", room.Shared(c, 2), sp(0x20000, 0x4000), sp(0x60000, page))
	checkSpans(t, "no channel", room.Shared(one([]api.Window{window(0, 0, page, 1)}, []api.Dev{dev(page, 0, page)}), 0))
	checkSpans(t, "such as may not be", room.Shared(between(1, channel(last, 2, end(0, 1, 0), end(0, 1, 0)), channel(9, 0, end(0, 1, 0), end(1, 1, 0))), 0), sp(last, 2), sp(9, 0))
	for _, g := range none(3) {
		checkSpans(t, fmt.Sprint("guest ", g), room.Shared(c, g))
	}
	checkSpans(t, "no guest that an end names", room.Shared(c, 7))
	checkSpans(t, "no guest that an end names", room.Shared(c, -1))
	checkSpans(t, "no guests", room.Shared(api.Config{Channels: c.Channels}, 0))
	// Two channels of one span are two.
	two := between(2, channel(0x1000, page, end(0, 1, 0), end(1, 1, 0)), channel(0x1000, page, end(1, 1, page), end(0, 1, page)))
	checkSpans(t, "two of one span", room.Shared(two, 0), sp(0x1000, page), sp(0x1000, page))
}

// behind is a system with more behind the length of each list: what lies there would change each answer.
func behind() (c, whole api.Config) {
	whole = mixed()
	whole.Guests[1].Windows = append(whole.Guests[1].Windows, window(0, 1, 0, 1), window(0x1000, 1, 1, 1))
	whole.Guests[1].Devices = append(whole.Guests[1].Devices, dev(0, 1, 0), dev(0x1000, 1, 1))
	whole.Channels = append(whole.Channels, channel(0, 0, end(1, 1, 0), end(0, 1, 0)))
	c = api.Config{Guests: slices.Clone(whole.Guests)[:2], Channels: whole.Channels[:5]}
	c.Guests[1].Windows, c.Guests[1].Devices = whole.Guests[1].Windows[:3], whole.Guests[1].Devices[:2]
	return c, whole
}

func TestGiven(t *testing.T) { // P2
	c, whole := behind()
	guests := slices.Clone(c.Guests[:3])
	_, had := behind()
	var first string
	for range 3 {
		l, e := room.Maps(c, 1)
		p, s := room.Physical(c, 1), room.Shared(c, 1)
		l2, _ := room.Maps(c, 1)
		p2, s2 := room.Physical(c, 1), room.Shared(c, 1)
		_, e2 := room.Maps(c, 2)
		if e != api.OK || e2 != api.ErrRange || len(l) != 9 || len(p) != 5 || len(s) != 3 || len(room.Physical(c, 2))+len(room.Shared(c, 2)) != 0 {
			t.Fatal("what lies behind a length counts:", e, e2, l, p, s)
		}
		told := fmt.Sprint(l, p, s)
		if first == "" {
			first = told
		}
		m, at, is := room.At(l[:1], 0x9000)
		if is || at != 0 || m != (api.Map{}) || !room.Good(l) {
			t.Fatal("At or Good:", m, at, is, l)
		}
		if told != first || told != fmt.Sprint(l2, p2, s2) || told != fmt.Sprint(l, p, s) {
			t.Fatal("not the same twice:", told, first)
		}
		clear(l[:cap(l)])
		clear(p[:cap(p)])
		clear(s[:cap(s)])
		if fmt.Sprint(l2, p2, s2) != first {
			t.Fatal("answers share memory:", l2, p2, s2)
		}
		if !reflect.DeepEqual(whole, had) || !reflect.DeepEqual(c.Guests[:3], guests) {
			t.Fatal("changed:", whole)
		}
	}
}

// TestOneOfAKind: an answer in the order of what was given is new memory too.
func TestOneOfAKind(t *testing.T) { // P2
	c := one([]api.Window{window(0, 1, 2, 3)}, []api.Dev{dev(9, 8, 7)}, channel(4, 5, end(0, 6, 17), end(0, 5, 40)))
	want := one([]api.Window{window(0, 1, 2, 3)}, []api.Dev{dev(9, 8, 7)}, channel(4, 5, end(0, 6, 17), end(0, 5, 40)))
	l, e := room.Maps(c, 0)
	p, s := room.Physical(c, 0), room.Shared(c, 0)
	if e != api.OK || len(l) != 4 || len(p) != 2 || len(s) != 1 {
		t.Fatal(l, e, p, s)
	}
	clear(l[:cap(l)])
	checkSpans(t, "Physical", p, sp(1, 2), sp(8, 7))
	clear(p[:cap(p)])
	checkSpans(t, "Shared", s, sp(4, 5))
	clear(s[:cap(s)])
	if !reflect.DeepEqual(c, want) {
		t.Fatal("an answer shares memory with what was given:", c)
	}
}

// TestAsked: At and Good leave alone what they are given, and ask nothing of what lies behind.
func TestAsked(t *testing.T) { // P2
	whole := []api.Map{part(0x2000, 0, page, 1, 0), part(0x3000, 0, page, 1, 1), part(0x1000, 7, 9, 8, 2)}
	had := slices.Clone(whole)
	l := whole[:2]
	if !room.Good(l) || room.Good(whole) {
		t.Error("Good")
	}
	if _, _, is := room.At(l, 0x1000); is {
		t.Error("At tells what lies behind")
	}
	m, _, _ := room.At(l, 0x2000)
	m.PA = 99
	if !slices.Equal(whole, had) || m == whole[0] {
		t.Error("changed:", whole)
	}
}
