package desc_test

import (
	"fmt"
	"math"
	"math/rand"
	"testing"

	"portreeve/api"
	"portreeve/desc"
)

func TestSize(t *testing.T) { // P18.1
	for level, want := range map[int]uint64{1: 0x40000000, 2: 0x200000, 3: 0x1000} {
		if got := desc.Size(level); got != want {
			t.Errorf("Size(%d) = %#x, want %#x", level, got, want)
		}
	}
	for _, level := range levels() {
		if level >= 1 && level <= 3 {
			continue
		}
		if got := desc.Size(level); got != 0 {
			t.Errorf("Size(%d) = %#x, want 0", level, got)
		}
	}
}

// laid are words laid by hand.
func laid() []struct {
	level int
	d     api.Desc
	w     uint64
} {
	return []struct {
		level int
		d     api.Desc
		w     uint64
	}{
		{1, api.Desc{}, 0},
		{2, api.Desc{}, 0},
		{3, api.Desc{}, 0},
		{1, api.Desc{Kind: api.DescTable}, 3},
		{2, api.Desc{Kind: api.DescTable}, 3},
		{1, api.Desc{Kind: api.DescTable, PA: 0x40000000}, 0x40000003},
		{2, api.Desc{Kind: api.DescTable, PA: 0x40000000}, 0x40000003},
		{1, api.Desc{Kind: api.DescTable, PA: 0x1000}, 0x1003},
		{2, api.Desc{Kind: api.DescTable, PA: 0xfffffff000}, 0xfffffff003},
		{1, api.Desc{Kind: api.DescBlock, Mem: api.Device}, 0x40000000000205},
		{1, api.Desc{Kind: api.DescBlock, PA: 0x8040000000, Perm: 7}, 0x80400003fd},
		{1, api.Desc{Kind: api.DescBlock, PA: 0xffc0000000, Perm: 2, AF: true}, 0x4000ffc00007bd},
		{2, api.Desc{Kind: api.DescBlock, PA: 0x40200000, Perm: 1, Mem: api.Device, AF: true}, 0x40000040200645},
		{2, api.Desc{Kind: api.DescBlock, PA: 0xffffe00000, Perm: 5}, 0xffffe0037d},
		{3, api.Desc{Kind: api.DescPage, PA: 0x40001000, Perm: 3, AF: true}, 0x400000400017ff},
		{3, api.Desc{Kind: api.DescPage, PA: 0x40001000, Perm: 7, AF: true}, 0x400017ff},
		{3, api.Desc{Kind: api.DescPage, PA: 0xfffffff000, Perm: 4, Mem: api.Device, AF: true}, 0xfffffff607},
		{3, api.Desc{Kind: api.DescPage, Perm: 6, Mem: api.Device}, 0x287},
		{3, api.Desc{Kind: api.DescPage}, 0x4000000000033f},
	}
}

func TestPutByHand(t *testing.T) { // P18.2, P18.5
	for _, c := range laid() {
		if w, e := desc.Put(c.level, c.d); w != c.w || e != api.OK {
			t.Errorf("Put(%d, %+v) = %#x, error %d, want %#x", c.level, c.d, w, e, c.w)
		}
		if d := desc.Of(c.level, c.w); d != c.d {
			t.Errorf("Of(%d, %#x) = %+v, want %+v", c.level, c.w, d, c.d)
		}
	}
}

// refused are descriptors of which one thing may not be.
func refused() []struct {
	level int
	d     api.Desc
} {
	none, table, block, leaf := api.DescNone, api.DescTable, api.DescBlock, api.DescPage
	return []struct {
		level int
		d     api.Desc
	}{
		{0, api.Desc{}},
		{4, api.Desc{}},
		{0, api.Desc{Kind: table, PA: page}},
		{4, api.Desc{Kind: leaf, PA: page, Perm: 1}},
		{0, api.Desc{Kind: block, PA: top / 2, Perm: 1}},
		{1, api.Desc{Kind: none, PA: page}},
		{2, api.Desc{Kind: none, PA: 1}},
		{3, api.Desc{Kind: none, PA: top}},
		{1, api.Desc{Kind: none, Perm: 1}},
		{2, api.Desc{Kind: none, Mem: 1}},
		{3, api.Desc{Kind: none, AF: true}},
		{3, api.Desc{Kind: table}},
		{3, api.Desc{Kind: table, PA: page}},
		{1, api.Desc{Kind: table, PA: page + 1}},
		{2, api.Desc{Kind: table, PA: page - 1}},
		{1, api.Desc{Kind: table, PA: page, Perm: 1}},
		{2, api.Desc{Kind: table, PA: page, Perm: -1}},
		{1, api.Desc{Kind: table, PA: page, Mem: 1}},
		{2, api.Desc{Kind: table, PA: page, AF: true}},
		{1, api.Desc{Kind: table, PA: top}},
		{2, api.Desc{Kind: table, PA: top}},
		{2, api.Desc{Kind: table, PA: 1<<48 - page}},
		{1, api.Desc{Kind: table, PA: math.MaxUint64 - page + 1}},
		{3, api.Desc{Kind: block, PA: giga, Perm: 1}},
		{1, api.Desc{Kind: leaf, PA: giga, Perm: 1}},
		{2, api.Desc{Kind: leaf, PA: giga, Perm: 1}},
		{1, api.Desc{Kind: block, PA: mega, Perm: 1}},
		{2, api.Desc{Kind: block, PA: page, Perm: 1}},
		{3, api.Desc{Kind: leaf, PA: page + 8, Perm: 1}},
		{1, api.Desc{Kind: block, PA: top, Perm: 1}},
		{2, api.Desc{Kind: block, PA: top, Perm: 1}},
		{3, api.Desc{Kind: leaf, PA: top, Perm: 1}},
		{1, api.Desc{Kind: block, PA: math.MaxUint64 - giga + 1, Perm: 1}},
		{2, api.Desc{Kind: block, PA: math.MaxUint64 - mega + 1, Perm: 1}},
		{3, api.Desc{Kind: leaf, PA: math.MaxUint64 - page + 1, Perm: 1}},
		{1, api.Desc{Kind: block, PA: giga, Perm: -1}},
		{2, api.Desc{Kind: block, PA: giga, Perm: 8}},
		{3, api.Desc{Kind: leaf, PA: giga, Perm: 8}},
		{3, api.Desc{Kind: leaf, PA: giga, Perm: math.MinInt}},
		{1, api.Desc{Kind: block, PA: giga, Mem: -1}},
		{2, api.Desc{Kind: block, PA: giga, Mem: 2}},
		{3, api.Desc{Kind: leaf, PA: giga, Mem: 2}},
		{1, api.Desc{Kind: -1}},
		{2, api.Desc{Kind: 4}},
		{3, api.Desc{Kind: math.MinInt, PA: page, Perm: 1}},
		{3, api.Desc{Kind: math.MaxInt, PA: page, Perm: 1}},
	}
}

func TestPutRefuses(t *testing.T) { // P18.2
	for _, c := range refused() {
		if w, e := desc.Put(c.level, c.d); w != 0 || e != api.ErrDesc {
			t.Errorf("Put(%d, %+v) = %#x, error %d, want 0, error %d", c.level, c.d, w, e, api.ErrDesc)
		}
	}
}

func TestPutAtAllEdges(t *testing.T) { // P18.2, P18.5
	near, far := numbers(-1, 9), []int{math.MinInt, -256, 1 << 32, 1<<32 + 1, 1<<32 + 2, 1<<32 + 3, math.MaxInt}
	checkPuts(t, numbers(-1, 5), numbers(-1, 5), addresses(), near, numbers(-1, 3))
	checkPuts(t, levels(), append(near, far...), []uint64{0, giga, top}, append(near, far...), append(near, far...))
}

// checkPuts puts all descriptors of these parts.
func checkPuts(t *testing.T, levels, kinds []int, pas []uint64, perms, mems []int) {
	t.Helper()
	for _, level := range levels {
		for _, kind := range kinds {
			for _, pa := range pas {
				for _, perm := range perms {
					for _, mem := range mems {
						checkPut(t, level, api.Desc{Kind: kind, PA: pa, Perm: perm, Mem: mem})
						checkPut(t, level, api.Desc{Kind: kind, PA: pa, Perm: perm, Mem: mem, AF: true})
					}
				}
			}
		}
	}
}

// TestPutOfAnyAddress asks each bit of an address by itself, and many of them together.
func TestPutOfAnyAddress(t *testing.T) { // P18.2, P18.5
	r := rand.New(rand.NewSource(18))
	for range 200000 {
		level := 1 + r.Intn(3)
		kind := []int{api.DescTable, api.DescBlock}[r.Intn(2)]
		if level == 3 {
			kind = api.DescPage
		}
		pa := r.Uint64() >> r.Intn(64) &^ (1<<r.Intn(40) - 1)
		d := api.Desc{Kind: kind, PA: pa % (1 << 41) / page * page}
		if kind != api.DescTable {
			d = api.Desc{Kind: kind, PA: pa, Perm: r.Intn(8), Mem: r.Intn(2), AF: r.Intn(2) > 0}
		}
		checkPut(t, level, d)
		d.PA = d.PA % top / modelSize(level) * modelSize(level)
		checkPut(t, level, d)
	}
}

func TestOfByHand(t *testing.T) { // P18.3
	const all = math.MaxUint64
	none, table, block, leaf := api.DescNone, api.DescTable, api.DescBlock, api.DescPage
	for _, c := range []struct {
		level int
		w     uint64
		want  api.Desc
	}{
		{0, 0x40000003, api.Desc{Kind: none}},
		{4, 0x400000400017ff, api.Desc{Kind: none}},
		{-1, all, api.Desc{Kind: none}},
		{math.MinInt, all, api.Desc{Kind: none}},
		{math.MaxInt, all, api.Desc{Kind: none}},
		{1, 2, api.Desc{Kind: none}},
		{2, all - 1, api.Desc{Kind: none}},
		{3, all - 1, api.Desc{Kind: none}},
		{3, 1, api.Desc{Kind: none}},
		{3, all - 2, api.Desc{Kind: none}},
		{1, 1, api.Desc{Kind: block, Perm: 4, Mem: api.Device}},
		{2, 1, api.Desc{Kind: block, Perm: 4, Mem: api.Device}},
		{3, 3, api.Desc{Kind: leaf, Perm: 4, Mem: api.Device}},
		{1, 3, api.Desc{Kind: table}},
		{2, 0x40000003, api.Desc{Kind: table, PA: 0x40000000}},
		{1, all, api.Desc{Kind: table, PA: 0xfffffffff000}},
		{2, all, api.Desc{Kind: table, PA: 0xfffffffff000}},
		{3, all, api.Desc{Kind: leaf, PA: 0xfffffffff000, Perm: 3, AF: true}},
		{1, all - 2, api.Desc{Kind: block, PA: 0xffffc0000000, Perm: 3, AF: true}},
		{2, all - 2, api.Desc{Kind: block, PA: 0xffffffe00000, Perm: 3, AF: true}},
		{3, 0x13, api.Desc{Kind: leaf, Perm: 4}},
		{3, 0x23, api.Desc{Kind: leaf, Perm: 4}},
		{3, 0x0f, api.Desc{Kind: leaf, Perm: 4, Mem: api.Device}},
		{3, 0x40000000000003, api.Desc{Kind: leaf, Mem: api.Device}},
		{3, 0xffbf000000000b03, api.Desc{Kind: leaf, Perm: 4, Mem: api.Device}},
	} {
		if d := desc.Of(c.level, c.w); d != c.want {
			t.Errorf("Of(%d, %#x) = %+v, want %+v", c.level, c.w, d, c.want)
		}
	}
}

// TestOfBitByBit sets one bit, or two, next to each of the four kinds' bits, and takes one or two away from all.
func TestOfBitByBit(t *testing.T) { // P18.3, P18.5
	for _, level := range levels() {
		for low := range uint64(4) {
			checkOf(t, level, low)
			checkOf(t, level, math.MaxUint64-low)
			for a := range 64 {
				for b := range 64 {
					two := uint64(1)<<a | 1<<b
					checkOf(t, level, two&^3|low)
					checkOf(t, level, ^two&^3|low)
				}
			}
		}
	}
}

// TestOfLeavesOutWhatTellsNothing changes the bits that no part of an answer comes from.
func TestOfLeavesOutWhatTellsNothing(t *testing.T) { // P18.3
	for _, c := range laid() {
		idle := uint64(0xffbf000000000b0c)
		switch c.d.Kind {
		case api.DescNone:
			idle = math.MaxUint64 - 1
		case api.DescTable:
			idle = 0xffff000000000ffc
		case api.DescBlock:
			idle |= modelSize(c.level) - page
		}
		for bit := range 64 {
			w := c.w ^ idle&(1<<bit)
			if d := desc.Of(c.level, w); d != c.d {
				t.Errorf("Of(%d, %#x) = %+v, want %+v", c.level, w, d, c.d)
			}
		}
	}
}

func TestOfAnyWord(t *testing.T) { // P18.3, P18.5
	r := rand.New(rand.NewSource(183))
	for range 50000 {
		w := r.Uint64() >> r.Intn(64) << r.Intn(64)
		for level := range 5 {
			for low := range uint64(4) {
				checkOf(t, level, w&^3|low)
			}
		}
	}
}

// TestOfTakesMemoryByTwoBits asks the bits 5 to 2, all sixteen of them.
func TestOfTakesMemoryByTwoBits(t *testing.T) { // P18.3
	for attr := range uint64(16) {
		want := api.Normal
		if attr < 4 {
			want = api.Device
		}
		for level, low := range map[int]uint64{1: 1, 2: 1, 3: 3} {
			if d := desc.Of(level, attr<<2|low); d.Mem != want {
				t.Errorf("Of(%d, %#x) tells Mem %d, want %d", level, attr<<2|low, d.Mem, want)
			}
		}
	}
}

func TestFieldByHand(t *testing.T) { // P18.4
	const all, w = math.MaxUint64, 0x8123456789abcdef
	for _, c := range []struct {
		w      uint64
		hi, lo int
		want   uint64
	}{
		{w, 63, 0, w},
		{w, 63, 60, 8},
		{w, 63, 63, 1},
		{w, 62, 62, 0},
		{w, 3, 0, 15},
		{w, 0, 0, 1},
		{w, 4, 4, 0},
		{w, 15, 8, 0xcd},
		{w, 47, 12, 0x456789abc},
		{w, 64, 0, 0},
		{w, 64, 64, 0},
		{w, 63, -1, 0},
		{w, -1, -1, 0},
		{w, 0, 1, 0},
		{w, 62, 63, 0},
		{all, 63, 0, all},
		{all, 63, 1, all >> 1},
		{all, 62, 0, all >> 1},
		{all, 0, 63, 0},
		{all, math.MaxInt, 0, 0},
		{all, math.MaxInt, math.MaxInt, 0},
		{all, 63, math.MinInt, 0},
		{all, math.MinInt, math.MinInt, 0},
		{all, math.MinInt, math.MaxInt, 0},
		{all, math.MaxInt, math.MinInt, 0},
		{0, 63, 0, 0},
	} {
		if got := desc.Field(c.w, c.hi, c.lo); got != c.want {
			t.Errorf("Field(%#x, %d, %d) = %#x, want %#x", c.w, c.hi, c.lo, got, c.want)
		}
	}
}

func TestFieldOfAllBits(t *testing.T) { // P18.4
	places := []int{math.MinInt, math.MinInt32, -128, -64, 127, 128, 1 << 32, math.MaxInt32, math.MaxInt}
	for n := range 70 {
		places = append(places, n-3)
	}
	for _, w := range []uint64{0, math.MaxUint64, 1, 1 << 63, 0x8123456789abcdef, 0x7edcba9876543210, 0x5555555555555555} {
		for _, hi := range places {
			for _, lo := range places {
				if got, want := desc.Field(w, hi, lo), modelField(w, hi, lo); got != want {
					t.Fatalf("Field(%#x, %d, %d) = %#x, want %#x", w, hi, lo, got, want)
				}
			}
		}
	}
}

// TestThereAndBack puts each descriptor whose parts may be, at the addresses that do.
func TestThereAndBack(t *testing.T) { // P18.5
	checked := 0
	back := func(level int, d api.Desc) {
		t.Helper()
		checked++
		w, e := desc.Put(level, d)
		if got := desc.Of(level, w); e != api.OK || got != d {
			t.Errorf("Of of Put(%d, %+v) = %+v, error %d", level, d, got, e)
		}
	}
	for level, kind := range map[int]int{1: api.DescBlock, 2: api.DescBlock, 3: api.DescPage} {
		back(level, api.Desc{})
		for bit := 12; bit < 40 && level < 3; bit++ {
			back(level, api.Desc{Kind: api.DescTable, PA: 1 << bit})
			back(level, api.Desc{Kind: api.DescTable, PA: top - 1<<bit})
		}
		for bit := sizeBits(level); bit < 40; bit++ {
			for n := range 8 * 2 * 2 {
				d := api.Desc{Kind: kind, PA: 1 << bit, Perm: n % 8, Mem: n / 8 % 2, AF: n >= 16}
				back(level, d)
				d.PA = top - d.PA
				back(level, d)
			}
		}
	}
	if want := 3 + 2*2*28 + 2*32*(10+19+28); checked != want {
		t.Errorf("%d descriptors were put, not %d", checked, want)
	}
}

func sizeBits(level int) int { return len(fmt.Sprintf("%b", modelSize(level))) - 1 }
