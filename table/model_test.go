package table_test

import (
	"bytes"
	"encoding/binary"
	"math/rand"
	"slices"
	"testing"

	"portreeve/api"
	"portreeve/frame"
	"portreeve/mach"
	"portreeve/room"
	"portreeve/table"
)

const (
	page = 1 << 12
	mega = 1 << 21 // what a descriptor of level 2 covers
	giga = 1 << 30 // what one of level 1 covers
	top  = 1 << 40
	last = 1<<64 - 1
	base = 0x40000000 // where memory of tests begins
)

func part(ipa, pa, size uint64, perm, kind int) api.Map {
	return api.Map{IPA: ipa, PA: pa, Size: size, Perm: perm, Kind: kind}
}

// modelPiece asks of the address alone which piece it lies in: the greatest stretch around it that one descriptor can tell.
func modelPiece(m api.Map, at uint64) api.Map {
	for _, size := range []uint64{giga, mega} {
		lo := at / size * size
		whole := lo >= m.IPA && lo+size <= m.IPA+m.Size
		if pa := m.PA + lo - m.IPA; whole && pa/size*size == pa {
			return part(lo, pa, size, m.Perm, m.Kind)
		}
	}
	return part(at, m.PA+at-m.IPA, page, m.Perm, m.Kind)
}

// modelPieces is P19.1.
func modelPieces(m api.Map) []api.Map {
	if !room.Good([]api.Map{m}) {
		return nil
	}
	var l []api.Map
	for at := m.IPA; at < m.IPA+m.Size; at += l[len(l)-1].Size {
		l = append(l, modelPiece(m, at))
		if len(l) == 10001 {
			return nil
		}
	}
	return l
}

// modelNeed is P19.2: it asks of each stretch of addresses whether one of the pieces lies in it and is smaller.
func modelNeed(l []api.Map) (int, api.Errno) {
	if !room.Good(l) {
		return 0, api.ErrMap
	}
	gigas, megas := map[uint64]int{}, map[uint64]int{}
	for _, m := range l {
		if modelPieces(m) == nil {
			return 0, api.ErrMap
		}
		for _, piece := range modelPieces(m) {
			if piece.Size < giga {
				gigas[piece.IPA>>30]++
			}
			if piece.Size < mega {
				megas[piece.IPA>>21]++
			}
		}
	}
	return 2 + len(gigas) + len(megas), api.OK
}

// modelWord adds up what a piece's descriptor is.
func modelWord(m api.Map) uint64 {
	w := m.PA + map[uint64]uint64{giga: 1, mega: 1, page: 3}[m.Size] + 1<<10
	w += []uint64{15<<2 + 3<<8, 1<<2 + 2<<8}[m.Kind]
	w += uint64(m.Perm&3) << 6
	if m.Perm < 4 {
		w += 1 << 54
	}
	return w
}

// world is memory and a pool, and what a model has of both.
type world struct {
	mem  *mach.Mem
	pool *frame.Pool
	ram  api.Span
	held []byte   // of ram
	free []uint64 // frames, rising
}

// newWorld has memory of so many pages, all of it junk, and a pool of those frames, be they in memory or not.
func newWorld(t *testing.T, pages uint64, frames api.Span) *world {
	t.Helper()
	w := &world{ram: api.Span{Base: base, Size: pages * page}, pool: frame.New(frames)}
	w.held = bytes.Repeat([]byte{0xa5, 0xff, 3}, int(w.ram.Size/3+1))[:w.ram.Size]
	m, e := mach.NewMem(w.ram, api.Chunk{At: base, B: w.held})
	if e != api.OK {
		t.Fatalf("NewMem: %v", e)
	}
	w.mem = m
	for at := frames.Base; at < frames.Base+frames.Size; at += page {
		w.free = append(w.free, at)
	}
	return w
}

// whole is a world whose pool has all of its memory.
func whole(t *testing.T, pages uint64) *world {
	t.Helper()
	return newWorld(t, pages, api.Span{Base: base, Size: pages * page})
}

// alloc has the pool hand out a frame to somebody else.
func (w *world) alloc() {
	w.pool.Alloc()
	w.grab(1)
}

// grab hands out so many frames in a row of the model's, the first at a multiple of so many frames.
func (w *world) grab(n uint64) (uint64, api.Errno) {
	for i, at := range w.free {
		if end := i + int(n); at%(n*page) == 0 && end <= len(w.free) && w.free[end-1] == at+(n-1)*page {
			w.free = slices.Delete(w.free, i, end)
			return at, api.OK
		}
	}
	return 0, api.ErrFrames
}

func (w *world) take(n uint64) (uint64, api.Errno) {
	at, e := w.grab(n)
	if e == api.OK {
		e = w.zero(at, n)
	}
	return at, e
}

func (w *world) zero(at, n uint64) api.Errno {
	if at < w.ram.Base || at+n*page > w.ram.Base+w.ram.Size {
		return api.ErrBus
	}
	copy(w.held[at-w.ram.Base:], make([]byte, n*page))
	return api.OK
}

func (w *world) put(at, n uint64) { binary.LittleEndian.PutUint64(w.held[at-w.ram.Base:], n) }

// get answers the word that the model has there.
func (w *world) get(at uint64) uint64 { return binary.LittleEndian.Uint64(w.held[at-w.ram.Base:]) }

// under answers the table that the descriptor there tells; if there is none, it is made.
func (w *world) under(at uint64) (uint64, api.Errno) {
	if n := w.get(at); n != 0 {
		return n - 3, api.OK
	}
	to, e := w.take(1)
	if e == api.OK {
		w.put(at, to+3)
	}
	return to, e
}

// build is P19.3, step by step.
func (w *world) build(l []api.Map) (uint64, api.Errno) {
	if _, e := modelNeed(l); e != api.OK {
		return 0, e
	}
	root, e := w.take(2)
	if e != api.OK {
		return 0, e
	}
	for _, m := range l {
		for _, piece := range modelPieces(m) {
			if e := w.tell(root, piece); e != api.OK {
				return 0, e
			}
		}
	}
	return root, api.OK
}

func (w *world) tell(at uint64, piece api.Map) api.Errno {
	at += piece.IPA >> 30 * 8
	for _, step := range []struct{ size, shift uint64 }{{giga, 21}, {mega, 12}} {
		if piece.Size == step.size {
			break
		}
		to, e := w.under(at)
		if e != api.OK {
			return e
		}
		at = to + piece.IPA>>step.shift%512*8
	}
	w.put(at, modelWord(piece))
	return api.OK
}

// check holds Build against the model: its answer, all of memory, and the pool.
func (w *world) check(t *testing.T, what string, l []api.Map) (uint64, api.Errno) {
	t.Helper()
	kept := slices.Clone(l)
	ahead := w.pool.Used()
	root, e := table.Build(w.mem, w.pool, l)
	wantRoot, wantE := w.build(l)
	if root != wantRoot || e != wantE {
		t.Errorf("%s: Build = %#x, %v; want %#x, %v", what, root, e, wantRoot, wantE)
	}
	if !slices.Equal(l, kept) {
		t.Errorf("%s: Build changes its parts", what)
	}
	w.same(t, what)
	n, _ := table.Need(l)
	if taken := w.pool.Used() - ahead; e == api.OK && taken != uint64(n) {
		t.Errorf("%s: Build takes %d frames; Need tells %d", what, taken, n)
	}
	return root, e
}

// same holds memory and the pool against the model's.
func (w *world) same(t *testing.T, what string) {
	t.Helper()
	got, e := w.mem.Read(w.ram.Base, w.ram.Size)
	if e != api.OK || !bytes.Equal(got, w.held) {
		t.Errorf("%s: memory isn't as it must be", what)
	}
	if w.pool.Left() != uint64(len(w.free)) {
		t.Errorf("%s: %d frames are free; want %d", what, w.pool.Left(), len(w.free))
	}
	for _, at := range w.free {
		if w.pool.Has(at) {
			t.Errorf("%s: the frame %#x is handed out", what, at)
		}
	}
}

// someParts are parts that may be, mostly: of pages and blocks, near one another.
func someParts(r *rand.Rand) []api.Map {
	sizes := []uint64{page, 2 * page, 3 * page, mega, mega + page, 2 * mega, giga, giga + mega}
	gaps := []uint64{0, 0, 0, page, 5 * page, mega - page, mega, giga, 3*giga - mega, 700 * giga}
	starts := []uint64{0, page, mega - page, mega, giga - mega, giga - page, giga, 1020 * giga}
	var l []api.Map
	at := starts[r.Intn(len(starts))]
	for range r.Intn(6) {
		at += gaps[r.Intn(len(gaps))]
		size := sizes[r.Intn(len(sizes))]
		pa := at%giga + giga*uint64(r.Intn(8))
		if r.Intn(4) == 0 {
			pa = uint64(r.Intn(8)) * []uint64{page, mega}[r.Intn(2)]
		}
		l = append(l, part(at, pa, size, 1+r.Intn(7), r.Intn(2)))
		at += size
		if r.Intn(5) > 0 {
			at = (at + mega - 1) / mega * mega
		}
	}
	return l
}
