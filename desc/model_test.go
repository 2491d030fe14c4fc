package desc_test

import (
	"fmt"
	"math"
	"math/big"
	"testing"

	"portreeve/api"
	"portreeve/desc"
)

const (
	page = 1 << 12
	mega = 1 << 21 // what a descriptor of level 2 covers
	giga = 1 << 30 // what one of level 1 covers
	top  = 1 << 40
)

// binary are the bits of a word, the highest one ahead.
func binary(w uint64) string { return fmt.Sprintf("%064b", w) }

// modelField reads the bits as a text.
func modelField(w uint64, hi, lo int) uint64 {
	if hi > 63 || lo < 0 || hi < lo {
		return 0
	}
	n, _ := new(big.Int).SetString(binary(w)[63-hi:64-lo], 2)
	return n.Uint64()
}

func modelSize(level int) uint64 {
	return map[int]uint64{1: giga, 2: mega, 3: page}[level]
}

// modelPut adds the parts of P18.2 up, which are multiples of powers of two.
func modelPut(level int, d api.Desc) (uint64, api.Errno) {
	size := modelSize(level)
	if size == 0 || d.PA >= top {
		return 0, api.ErrDesc
	}
	plain := d.Perm == 0 && d.Mem == 0 && !d.AF
	if d.Kind == 0 && plain && d.PA == 0 {
		return 0, api.OK
	}
	if d.Kind == 1 && level != 3 && plain && d.PA%4096 == 0 {
		return d.PA + 3, api.OK
	}
	if d.Kind != 2 && d.Kind != 3 || (d.Kind == 3) != (level == 3) {
		return 0, api.ErrDesc
	}
	if d.PA%size != 0 || d.Perm < 0 || d.Perm > 7 || d.Mem < 0 || d.Mem > 1 {
		return 0, api.ErrDesc
	}
	w := d.PA + []uint64{2: 1, 3: 3}[d.Kind]
	w += []uint64{15, 1}[d.Mem] * 4
	w += uint64(d.Perm%2)*64 + uint64(d.Perm/2%2)*128
	w += []uint64{3, 2}[d.Mem] * 256
	if d.AF {
		w += 1024
	}
	if d.Perm < 4 {
		w += 1 << 54
	}
	return w, api.OK
}

// modelOf reads single bits of a text.
func modelOf(level int, w uint64) api.Desc {
	text := binary(w)
	bit := func(n int) bool { return text[63-n] == '1' }
	pa := func(size uint64) uint64 { return w % (1 << 48) / size * size }
	switch {
	case level < 1 || level > 3 || !bit(0) || level == 3 && !bit(1):
		return api.Desc{}
	case level < 3 && bit(1):
		return api.Desc{Kind: 1, PA: pa(page)}
	}
	d := api.Desc{Kind: 2, PA: pa(modelSize(level)), Perm: 4, Mem: 0, AF: bit(10)}
	if level == 3 {
		d.Kind = 3
	}
	if bit(54) {
		d.Perm = 0
	}
	if bit(6) {
		d.Perm++
	}
	if bit(7) {
		d.Perm += 2
	}
	if !bit(5) && !bit(4) {
		d.Mem = 1
	}
	return d
}

// levels are all that have a Size, those beside them, and others that may not be.
func levels() []int {
	return []int{math.MinInt, math.MinInt32, -64, -3, -2, -1, 0, 1, 2, 3, 4, 5, 6, 7, 64, 256, 1 << 32, 1<<32 + 1, math.MaxInt32, math.MaxInt}
}

// numbers are those from one up to another.
func numbers(from, to int) []int {
	var l []int
	for n := from; n <= to; n++ {
		l = append(l, n)
	}
	return l
}

// addresses are those at which one is no multiple of a Size any more, or none below 2^40.
func addresses() []uint64 {
	l := []uint64{0, 0x40001000, 0x8040200000, math.MaxUint64}
	for i := range 64 {
		l = append(l, 1<<i)
	}
	for _, size := range []uint64{page, mega, giga} {
		for _, end := range []uint64{2 * giga, top, 1 << 48, 0} {
			l = append(l, end-size, end-size-1, end-size+1, end+size, end-1, end+1)
		}
		l = append(l, size/2, size+size/2, 3*size, size-8, size+8)
	}
	return l
}

// checkPut holds Put against the model, and Of against what was put.
func checkPut(t *testing.T, level int, d api.Desc) {
	t.Helper()
	w, e := desc.Put(level, d)
	want, wrong := modelPut(level, d)
	if w != want || e != wrong {
		t.Fatalf("Put(%d, %+v) = %#x, error %d, want %#x, error %d", level, d, w, e, want, wrong)
	}
	if e != api.OK {
		return
	}
	if back := desc.Of(level, w); back != d {
		t.Fatalf("Of(%d, %#x) = %+v, but %+v was put", level, w, back, d)
	}
}

// checkOf holds Of against the model, and what it tells against what Put writes of it.
func checkOf(t *testing.T, level int, w uint64) {
	t.Helper()
	d := desc.Of(level, w)
	if want := modelOf(level, w); d != want {
		t.Fatalf("Of(%d, %#x) = %+v, want %+v", level, w, d, want)
	}
	checkPut(t, level, d)
}
