package table_test

import (
	"math/rand"
	"testing"

	"portreeve/api"
	"portreeve/frame"
	"portreeve/mach"
	"portreeve/table"
)

// words holds the words of memory that aren't 0, from a table on, against those asked.
func words(t *testing.T, what string, w *world, at uint64, n int, want map[uint64]uint64) {
	t.Helper()
	for i := range uint64(n) {
		got, e := w.mem.Word(at + 8*i)
		if e != api.OK || got != want[i] {
			t.Errorf("%s: descriptor %d of the table %#x is %#x, %v; want %#x", what, i, at, got, e, want[i])
		}
	}
}

func TestBuildPage(t *testing.T) { // P19.3
	w := whole(t, 8)
	root, e := w.check(t, "a page", []api.Map{part(3*giga+5*mega+7*page, 0x40001000, page, api.Read|api.Write, api.Normal)})
	if root != base || e != api.OK {
		t.Fatalf("root %#x, %v", root, e)
	}
	words(t, "the root", w, base, 1024, map[uint64]uint64{3: base + 0x2000 + 3})
	words(t, "level 2", w, base+0x2000, 512, map[uint64]uint64{5: base + 0x3000 + 3})
	words(t, "level 3", w, base+0x3000, 512, map[uint64]uint64{7: 0x400000400017ff})
	if w.pool.Used() != 4 {
		t.Errorf("%d frames are taken", w.pool.Used())
	}
	words(t, "no table", w, base+0x4000, 1, map[uint64]uint64{0: w.get(base + 0x4000)})
}

func TestBuildNothing(t *testing.T) { // P19.3
	w := whole(t, 4)
	root, e := w.check(t, "no parts", nil)
	words(t, "the root", w, root, 1024, nil)
	if root != base || e != api.OK || w.pool.Used() != 2 {
		t.Errorf("of no parts: %#x, %v, and %d frames", root, e, w.pool.Used())
	}
}

func TestBuildKinds(t *testing.T) { // P19.3: each Perm and Kind, at all levels
	for perm := 1; perm <= 7; perm++ {
		for kind := range 2 {
			w := whole(t, 8)
			l := []api.Map{part(page, 9*page, page, perm, kind), part(mega, 3*mega, mega, perm, kind), part(giga, 2*giga, giga, perm, kind)}
			if _, e := w.check(t, "all levels", l); e != api.OK {
				t.Errorf("%+v: %v", l, e)
			}
		}
	}
	w := whole(t, 8)
	w.check(t, "blocks", []api.Map{part(0, 2*giga, giga, 5, 0), part(giga+511*mega, 4*mega, mega, 2, 1), part(top-giga, top-giga, giga, 4, 1)})
	words(t, "the root", w, base, 1024, map[uint64]uint64{0: 2*giga + 0x77d, 1: base + 0x2000 + 3, 1023: top - giga + 0x605})
	words(t, "level 2", w, base+0x2000, 512, map[uint64]uint64{511: 4*mega + 0x685 + 1<<54})
}

// TestBuildPlaces has parts at the first and last places of tables.
func TestBuildPlaces(t *testing.T) { // P19.3
	for _, ipa := range []uint64{0, page, mega - page, mega, giga - mega, giga - page, giga, 511 * giga, 512 * giga, top - giga, top - mega, top - page} {
		w := whole(t, 8)
		w.check(t, "a page", []api.Map{part(ipa, top-page, page, 7, 0)})
		w = whole(t, 8)
		w.check(t, "a block of 2^21", []api.Map{part(ipa/mega*mega, top-mega, mega, 7, 0)})
		w = whole(t, 8)
		w.check(t, "a block of 2^30", []api.Map{part(ipa/giga*giga, top-giga, giga, 7, 0)})
	}
}

// TestBuildCases builds what Need is asked of.
func TestBuildCases(t *testing.T) { // P19.3, P19.4
	for _, l := range [][]api.Map{
		{part(0x1ff000, 0x401ff000, 0x202000, 7, 0)},
		{pageAt(mega), pageAt(2*mega - page)},
		{pageAt(2*mega - page), pageAt(2 * mega)},
		{pageAt(giga), pageAt(2*giga - page)},
		{pageAt(2*giga - page), pageAt(2 * giga)},
		{pageAt(5*giga + 7*mega), pageAt(6*giga + 7*mega)},
		{gigaAt(0), gigaAt(giga), gigaAt(top - giga)},
		{part(0, 0, top, 1, 0)},
		{megaAt(0), megaAt(mega), megaAt(giga - mega)},
		{megaAt(giga - mega), megaAt(giga)},
		{part(0, mega, giga+mega, 1, 0)},
		{part(0, page, 3*page, 1, 0), part(9*page, page, 3*page, 2, 1)},
		{pageAt(0), gigaAt(giga), pageAt(2 * giga)},
		{part(giga-mega-page, 4*giga-mega-page, giga+2*mega+page, 6, 1), pageAt(3 * giga)},
		{part(giga, page, 10000*page, 1, 0)},
	} {
		need, _ := table.Need(l)
		if _, e := whole(t, uint64(need)).check(t, "with just Need frames", l); e != api.OK {
			t.Errorf("Build of %+v with just Need frames: %v", l, e)
		}
		if _, e := whole(t, uint64(need)-1).check(t, "with one less", l); e != api.ErrFrames {
			t.Errorf("Build of %+v with one frame less: %v", l, e)
		}
	}
}

// TestBuildOrder tells which frame is handed out when, since the lowest one always is.
func TestBuildOrder(t *testing.T) { // P19.3
	w := newWorld(t, 16, api.Span{Base: base + page, Size: 15 * page})
	root, e := w.check(t, "from an odd frame on", []api.Map{pageAt(0), part(mega, mega, mega, 1, 0), pageAt(3 * mega), gigaAt(giga), pageAt(4 * giga)})
	if root != base+2*page || e != api.OK {
		t.Fatalf("root %#x, %v", root, e)
	}
	words(t, "the root", w, root, 1024, map[uint64]uint64{0: base + page + 3, 1: giga + 0x605, 4: base + 6*page + 3})
	words(t, "level 2 takes the odd frame", w, base+page, 512, map[uint64]uint64{0: base + 4*page + 3, 1: mega + 0x77d + 1<<54, 3: base + 5*page + 3})
	words(t, "level 2, again", w, base+6*page, 512, map[uint64]uint64{0: base + 7*page + 3})
}

func TestBuildAlign(t *testing.T) { // P19.3: two frames in a row, the first at a multiple of 8192
	l := []api.Map{pageAt(0)}
	w := newWorld(t, 8, api.Span{Base: base + page, Size: 2 * page})
	if root, e := w.check(t, "two in a row, at no multiple", l); root != 0 || e != api.ErrFrames || w.pool.Used() != 0 {
		t.Errorf("Build = %#x, %v, with %d frames taken", root, e, w.pool.Used())
	}
	w = newWorld(t, 8, api.Span{Base: base + page, Size: 3 * page})
	if root, e := w.check(t, "at a multiple, but too few", l); root != 0 || e != api.ErrFrames || w.pool.Used() != 3 {
		t.Errorf("Build = %#x, %v, with %d frames taken", root, e, w.pool.Used())
	}
	w = whole(t, 8)
	for range 4 {
		w.alloc()
	}
	if root, e := w.check(t, "behind what is taken", l); root != base+4*page || e != api.OK {
		t.Errorf("Build = %#x, %v", root, e)
	}
}

func TestBuildNone(t *testing.T) { // P19.3
	w := newWorld(t, 4, api.Span{Base: base})
	if _, e := w.check(t, "a pool of no frames", []api.Map{pageAt(0)}); e != api.ErrFrames {
		t.Errorf("with no frames: %v", e)
	}
	w = newWorld(t, 4, api.Span{Base: base, Size: page})
	if _, e := w.check(t, "a pool of one frame", nil); e != api.ErrFrames {
		t.Errorf("with one frame: %v", e)
	}
	w = newWorld(t, 4, api.Span{Base: base, Size: 3 * page})
	if _, e := w.check(t, "one frame for level 3 is missing", []api.Map{pageAt(giga)}); e != api.ErrFrames || w.pool.Used() != 3 {
		t.Errorf("with three frames: %v", e)
	}
	words(t, "the table of level 2 is told already", w, base, 1024, map[uint64]uint64{1: base + 2*page + 3})
	words(t, "it tells nothing yet", w, base+2*page, 512, nil)
}

// TestBuildBus has frames that memory doesn't have: what was handed out stays so.
func TestBuildBus(t *testing.T) { // P19.3
	l := []api.Map{megaAt(0), pageAt(mega), megaAt(giga)}
	for _, c := range []struct {
		what   string
		frames api.Span
		used   uint64
	}{
		{"the root is below memory", api.Span{Base: base - 2*page, Size: 9 * page}, 2},
		{"the root is behind memory", api.Span{Base: base + 4*page, Size: 9 * page}, 2},
		{"the root is beyond all memory", api.Span{Base: top, Size: 9 * page}, 2},
		{"the table of level 2 is below memory", api.Span{Base: base - page, Size: 9 * page}, 3},
		{"the table of level 2 is behind memory", api.Span{Base: base + 2*page, Size: 9 * page}, 3},
		{"the last table is behind memory", api.Span{Base: base, Size: 9 * page}, 5},
	} {
		w := newWorld(t, 4, c.frames)
		if root, e := w.check(t, c.what, l); root != 0 || e != api.ErrBus || w.pool.Used() != c.used {
			t.Errorf("%s: Build = %#x, %v, and %d frames; want ErrBus and %d", c.what, root, e, w.pool.Used(), c.used)
		}
	}
}

func TestBuildBusLevel3(t *testing.T) { // P19.3: the table of level 2 is there and told, the one of level 3 is not
	w := newWorld(t, 3, api.Span{Base: base, Size: 9 * page})
	if root, e := w.check(t, "a page", []api.Map{gigaAt(0), pageAt(giga)}); root != 0 || e != api.ErrBus || w.pool.Used() != 4 {
		t.Errorf("Build = %#x, %v, and %d frames", root, e, w.pool.Used())
	}
	words(t, "the root", w, base, 1024, map[uint64]uint64{0: 0x605, 1: base + 2*page + 3})
}

func TestBuildHalfRoot(t *testing.T) { // P19.3: the second frame of the root isn't in memory, and nothing is written
	w := newWorld(t, 3, api.Span{Base: base + 2*page, Size: 4 * page})
	if root, e := w.check(t, "half a root", nil); root != 0 || e != api.ErrBus || w.pool.Used() != 2 {
		t.Errorf("Build = %#x, %v, and %d frames", root, e, w.pool.Used())
	}
}

func TestBuildRefused(t *testing.T) { // P19.3: Need's error is ahead of all, and nothing is taken
	for _, l := range [][]api.Map{
		{{}}, {part(0, 0, page, 8, 0)}, {pageAt(page), pageAt(0)}, {megaAt(0), pageAt(0)}, {part(0, page, 10001*page, 1, 0)},
		{pageAt(0), part(giga, page, 10001*page, 1, 0)}, {part(0, top, page, 1, 0)}, {part(last, last, last, -1, -1)},
	} {
		w := whole(t, 8)
		if root, e := w.check(t, "refused", l); root != 0 || e != api.ErrMap || w.pool.Used() != 0 {
			t.Errorf("Build of %+v = %#x, %v, and %d frames", l, root, e, w.pool.Used())
		}
		if root, e := table.Build(nil, nil, l); root != 0 || e != api.ErrMap {
			t.Errorf("Build of %+v with nothing = %#x, %v", l, root, e)
		}
	}
}

func TestBuildNobody(t *testing.T) { // P19.3, P1
	l := []api.Map{pageAt(0)}
	w := whole(t, 8)
	for _, m := range []*mach.Mem{nil, {}} {
		p := frame.New(api.Span{Base: base, Size: 8 * page})
		if root, e := table.Build(m, p, l); root != 0 || e != api.ErrBus || p.Used() != 2 {
			t.Errorf("with no memory: %#x, %v, and %d frames", root, e, p.Used())
		}
		if root, e := table.Build(m, p, nil); root != 0 || e != api.ErrBus || p.Used() != 4 {
			t.Errorf("with no memory and no parts: %#x, %v, and %d frames", root, e, p.Used())
		}
	}
	for _, p := range []*frame.Pool{nil, {}} {
		for _, m := range []*mach.Mem{w.mem, nil, {}} {
			if root, e := table.Build(m, p, l); root != 0 || e != api.ErrFrames {
				t.Errorf("with no pool: %#x, %v", root, e)
			}
		}
	}
	w.same(t, "with no pool")
}

func TestBuildAgain(t *testing.T) { // P19.3, P19.4: tables of two, in frames of one pool, and what was built stays
	w := whole(t, 24)
	l := []api.Map{part(mega-page, 5*mega-page, mega+2*page, 5, 0), pageAt(7 * giga)}
	one, e := w.check(t, "the first", l)
	if e != api.OK {
		t.Fatal(e)
	}
	two, e := w.check(t, "the second", l)
	if e != api.OK || two == one || two%8192 != 0 {
		t.Errorf("the second root is %#x, %v", two, e)
	}
	three, e := w.check(t, "of other parts", []api.Map{gigaAt(giga), megaAt(2 * giga)})
	if e != api.OK || three == one || three == two {
		t.Errorf("the third root is %#x, %v", three, e)
	}
	for e == api.OK {
		_, e = w.check(t, "till none is left", l)
	}
	if e != api.ErrFrames {
		t.Errorf("at last: %v", e)
	}
}

func TestBuildAny(t *testing.T) { // P19.3, P19.4
	r := rand.New(rand.NewSource(3))
	built := 0
	for range 1500 {
		first := uint64(r.Intn(4))
		w := newWorld(t, 24, api.Span{Base: base + first*page, Size: uint64(2+r.Intn(22)) * page})
		for range r.Intn(3) {
			w.alloc()
		}
		for range 1 + r.Intn(3) {
			if _, e := w.check(t, "any parts", someParts(r)); e == api.OK {
				built++
			}
		}
		if t.Failed() {
			break
		}
	}
	if built < 500 {
		t.Errorf("only %d were built", built)
	}
}
