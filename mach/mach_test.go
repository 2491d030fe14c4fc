package mach_test

import (
	"bytes"
	"encoding/binary"
	"fmt"
	"math"
	"math/rand"
	"slices"
	"testing"

	"portreeve/api"
	"portreeve/mach"
)

const (
	last = math.MaxUint64
	top  = 1 << 40 // the first address that no memory has
	most = 1 << 20 // bytes of one access
)

func sp(base, size uint64) api.Span { return api.Span{Base: base, Size: size} }

// rams are such as may be: at the first address, in between, up to the last one, and all of them.
func rams() []api.Span {
	return []api.Span{sp(0, 4096), sp(0, 0x3000), sp(0x40000000, 0x2000), sp(0x40000000, 0x300000), sp(top-4096, 4096), sp(top-0x200000, 0x200000), sp(0, top)}
}

// noRams are such as may not be.
func noRams() []api.Span {
	return []api.Span{
		{}, sp(4096, 0), sp(0x40000000, 0), sp(top-4096, 0), sp(last-4095, 0), sp(0, 1), sp(0, 4095), sp(0, 4097), sp(1, 4096), sp(8, 8192), sp(4095, 4096), sp(2048, 4096),
		sp(0x40000000, 0x1fff), sp(0x40000000, 0x2001), sp(0x40000001, 0x1fff), sp(0x40000800, 0x1800),
		sp(0, top+4096), sp(4096, top), sp(top-4096, 8192), sp(top, 4096), sp(top+4096, 4096), sp(1<<41, 4096), sp(top-4096, 4097), sp(top-1, 1),
		sp(0, 1<<63), sp(1<<63, 4096), sp(1<<63, 1<<63), sp(last-4095, 4096), sp(last-4095, 8192), sp(4096, last-4095), sp(8192, last-4095), sp(0x40000000, last-0xfff), sp(last, 1), sp(0, last), sp(last, last),
	}
}

// model is memory as the document words it: a byte an address, and all 0 but those that are kept.
type model struct {
	ram api.Span
	b   map[uint64]byte
}

func (m model) has(at, n uint64) bool {
	return at >= m.ram.Base && at-m.ram.Base < m.ram.Size && n <= m.ram.Size-(at-m.ram.Base)
}

// access is the error of a Read or a Write.
func (m model) access(at, n uint64) api.Errno {
	if n > most {
		return api.ErrLong
	}
	if n > 0 && !m.has(at, n) {
		return api.ErrBus
	}
	return api.OK
}

func (m model) read(at, n uint64) []byte {
	b := make([]byte, n)
	for i := range b {
		b[i] = m.b[at+uint64(i)]
	}
	return b
}

func (m model) write(at uint64, b []byte) {
	for i, x := range b {
		m.b[at+uint64(i)] = x
	}
}

func (m model) zero(s api.Span) {
	for at := range m.b {
		if at >= s.Base && at-s.Base < s.Size {
			delete(m.b, at)
		}
	}
}

func (m model) touched() []uint64 {
	var l []uint64
	for at, x := range m.b {
		if x != 0 && !slices.Contains(l, at/4096*4096) {
			l = append(l, at/4096*4096)
		}
	}
	slices.Sort(l)
	return l
}

// counted are n bytes, none of which is 0, and which repeat after 251 only.
func counted(n int) []byte {
	b := make([]byte, n)
	for i := range b {
		b[i] = byte(i%251 + 1)
	}
	return b
}

// made is memory of these addresses.
func made(t *testing.T, ram api.Span, junk ...api.Chunk) *mach.Mem {
	t.Helper()
	m, e := mach.NewMem(ram, junk...)
	if e != api.OK || m == nil {
		t.Fatalf("NewMem(%#x): error %d", ram, e)
	}
	return m
}

func checkErr(t *testing.T, what string, got, want api.Errno) {
	t.Helper()
	if got != want {
		t.Errorf("%s: error %d, want %d", what, got, want)
	}
}

// reader is memory, or a machine that has it.
type reader interface {
	Read(at, n uint64) ([]byte, api.Errno)
}

func checkRead(t *testing.T, m reader, at uint64, want []byte) {
	t.Helper()
	got, e := m.Read(at, uint64(len(want)))
	if e != api.OK || !bytes.Equal(got, want) {
		t.Errorf("Read(%#x, %d): error %d, %x, want %x", at, len(want), e, short(got), short(want))
	}
}

func short(b []byte) []byte { return b[:min(len(b), 64)] }

// checkNoRead asks for an error, and no bytes beside it.
func checkNoRead(t *testing.T, m reader, at, n uint64, want api.Errno) {
	t.Helper()
	if got, e := m.Read(at, n); e != want || got != nil {
		t.Errorf("Read(%#x, %#x): error %d, %d bytes, want %d and none", at, n, e, len(got), want)
	}
}

func checkTouched(t *testing.T, what string, m interface{ Touched() []uint64 }, want ...uint64) {
	t.Helper()
	if got := m.Touched(); !slices.Equal(got, want) {
		t.Errorf("%s: Touched %#x, want %#x", what, got, want)
	}
}

// board is one that may be.
func board() api.Board {
	return api.Board{Ram: sp(0x40000000, 0x10000), Loader: sp(0x40001000, 0x2000), Irqs: 64, Streams: 16, Cpus: 4}
}

func checkFit(t *testing.T, what string, b api.Board, want api.Errno) {
	t.Helper()
	checkErr(t, fmt.Sprintf("Fit, %s, of %+v", what, b), mach.Fit(b), want)
}

func TestFitNumbers(t *testing.T) { // P9.1
	for _, n := range []struct {
		what        string
		put         func(b *api.Board, n int)
		least, most int
	}{
		{"interrupts", func(b *api.Board, n int) { b.Irqs = n }, 0, 1020},
		{"streams", func(b *api.Board, n int) { b.Streams = n }, 0, 256},
		{"processors", func(b *api.Board, n int) { b.Cpus = n }, 1, 32},
	} {
		all := []int{math.MinInt, math.MinInt32, -1 << 16, -4096, -1020, -256, -32, -1, 1 << 16, 1 << 20, math.MaxInt32, 1 << 32, 1<<32 + 1, math.MaxInt - 1, math.MaxInt}
		for i := -2; i <= 1100; i++ {
			all = append(all, i)
		}
		for _, i := range all {
			b, want := board(), api.ErrBoard
			n.put(&b, i)
			if n.least <= i && i <= n.most {
				want = api.OK
			}
			checkFit(t, n.what, b, want)
		}
	}
	least, greatest := board(), board()
	least.Irqs, least.Streams, least.Cpus = 0, 0, 1
	greatest.Irqs, greatest.Streams, greatest.Cpus = 1020, 256, 32
	checkFit(t, "the least", least, api.OK)
	checkFit(t, "the greatest", greatest, api.OK)
	checkFit(t, "no board", api.Board{}, api.ErrBoard)
}

func TestFitRam(t *testing.T) { // P9.1
	for _, ram := range rams() {
		b := board()
		b.Ram = ram
		for _, loader := range []api.Span{ram, sp(ram.Base, 4096), sp(ram.Base+ram.Size-4096, 4096)} {
			b.Loader = loader
			checkFit(t, "ram that may be", b, api.OK)
		}
	}
	for _, ram := range noRams() {
		b := board()
		b.Ram = ram
		// Among these are loaders of whole pages that lie in such a ram.
		for _, loader := range []api.Span{ram, b.Loader, sp(ram.Base, 4096), sp(0, 4096), sp(4096, 4096), sp(0x40000000, 0x1000), sp(top-4096, 4096)} {
			b.Loader = loader
			checkFit(t, "ram that may not be", b, api.ErrBoard)
		}
	}
}

func TestFitLoader(t *testing.T) { // P9.1
	b := board()
	for _, l := range []api.Span{b.Ram, sp(0x40000000, 4096), sp(0x4000f000, 4096), sp(0x40000000, 0xf000), sp(0x40001000, 0xf000), sp(0x40003000, 0x4000)} {
		b.Loader = l
		checkFit(t, "loader within", b, api.OK)
	}
	for _, l := range append(noRams(),
		sp(0x40000000, 0x1001), sp(0x40001000, 0xfff), sp(0x40001000, 1), sp(0x40001001, 0xfff), sp(0x40001001, 0x1000), sp(0x40001800, 0x1000), sp(0x40001008, 0x2000),
		sp(0x3ffff000, 0x1000), sp(0x3ffff000, 0x2000), sp(0x3ffff000, 0x12000), sp(0x40000000, 0x11000), sp(0x4000f000, 0x2000), sp(0x40010000, 0x1000), sp(0x50000000, 0x1000),
		sp(0, 0x40010000), sp(0, 4096), sp(top-4096, 4096),
	) {
		b.Loader = l
		checkFit(t, "loader that may not be", b, api.ErrBoard)
	}
	b.Ram = sp(top-0x4000, 0x4000)
	for _, l := range []api.Span{sp(top, 4096), sp(top-4096, 8192), sp(top-0x4000, 0x5000)} {
		b.Loader = l
		checkFit(t, "loader beyond 2^40", b, api.ErrBoard)
	}
}

func TestNewMem(t *testing.T) { // P9.2
	for _, ram := range rams() {
		m := made(t, ram)
		checkTouched(t, "new", m)
		for _, at := range []uint64{ram.Base, ram.Base + ram.Size/2, ram.Base + ram.Size - 16} {
			checkRead(t, m, at, make([]byte, 16))
		}
		checkErr(t, "Write to the last byte", m.Write(ram.Base+ram.Size-1, []byte{7}), api.OK)
		checkErr(t, "Write behind the last byte", m.Write(ram.Base+ram.Size, []byte{7}), api.ErrBus)
	}
}

func TestNewMemWrongRam(t *testing.T) { // P9.2, P4: ErrRange comes ahead of what the chunks tell
	for _, ram := range noRams() {
		for _, junk := range [][]api.Chunk{nil, {}, {{At: ram.Base}}, {{At: ram.Base, B: []byte{1}}}, {{At: 8, B: make([]byte, most+1)}}, {{At: last, B: []byte{1, 2}}}} {
			if m, e := mach.NewMem(ram, junk...); m != nil || e != api.ErrRange {
				t.Errorf("NewMem(%#x): %v, error %d", ram, m != nil, e)
			}
		}
	}
}

func TestNewMemChunks(t *testing.T) { // P9.2: one behind the other, so that the later one wins
	m := made(t, sp(0x1000, 0x3000),
		api.Chunk{At: 0x1ffe, B: []byte{1, 2, 3, 4}}, api.Chunk{At: 0x1fff, B: []byte{9, 0}}, api.Chunk{At: 0x2001, B: []byte{8}},
		api.Chunk{At: 0x3fff, B: []byte{5}}, api.Chunk{At: 0x1000, B: []byte{6}}, api.Chunk{At: 0x1000}, api.Chunk{}, api.Chunk{At: last, B: []byte{}})
	checkRead(t, m, 0x1ffc, []byte{0, 0, 1, 9, 0, 8, 0, 0})
	checkRead(t, m, 0x3ffe, []byte{0, 5})
	checkRead(t, m, 0x1000, []byte{6, 0})
	checkTouched(t, "chunks", m, 0x1000, 0x2000, 0x3000)

	same := []api.Chunk{{At: 0x2000, B: []byte{1, 1, 1}}, {At: 0x2000, B: []byte{2, 2}}, {At: 0x2000, B: []byte{3}}}
	checkRead(t, made(t, sp(0, 0x3000), same...), 0x2000, []byte{3, 2, 1, 0})
	slices.Reverse(same)
	checkRead(t, made(t, sp(0, 0x3000), same...), 0x2000, []byte{1, 1, 1, 0})

	great := made(t, sp(0, 0x200000), api.Chunk{At: 1, B: counted(most)})
	checkRead(t, great, 1, counted(most))
	checkRead(t, great, most, []byte{counted(most)[most-1], 0})
	whole := made(t, sp(top-4096, 4096), api.Chunk{At: top - 4096, B: counted(4096)})
	checkRead(t, whole, top-4096, counted(4096))
}

func TestNewMemWrongChunks(t *testing.T) { // P9.2: the first error that a chunk's Write tells
	ram := sp(0x1000, 0x2000)
	in, out, long := api.Chunk{At: 0x1000, B: []byte{1}}, api.Chunk{At: 0x3000, B: []byte{1}}, api.Chunk{At: 0x1000, B: make([]byte, most+1)}
	for _, c := range []struct {
		junk []api.Chunk
		want api.Errno
	}{
		{[]api.Chunk{out}, api.ErrBus}, {[]api.Chunk{in, out}, api.ErrBus}, {[]api.Chunk{out, in}, api.ErrBus}, {[]api.Chunk{in, out, in}, api.ErrBus},
		{[]api.Chunk{long}, api.ErrLong}, {[]api.Chunk{in, long}, api.ErrLong}, {[]api.Chunk{long, in}, api.ErrLong},
		{[]api.Chunk{out, long}, api.ErrBus}, {[]api.Chunk{long, out}, api.ErrLong}, {[]api.Chunk{in, out, long}, api.ErrBus}, {[]api.Chunk{in, {}, long, in, out}, api.ErrLong},
		{[]api.Chunk{{At: 0xfff, B: []byte{1}}}, api.ErrBus}, {[]api.Chunk{{At: 0xfff, B: []byte{0, 0}}}, api.ErrBus}, {[]api.Chunk{{At: 0x2fff, B: []byte{1, 2}}}, api.ErrBus},
		{[]api.Chunk{{At: 0x1000, B: make([]byte, 0x2001)}}, api.ErrBus}, {[]api.Chunk{{At: 0x1000, B: make([]byte, most)}}, api.ErrBus},
		{[]api.Chunk{{At: last, B: []byte{1}}}, api.ErrBus}, {[]api.Chunk{{At: last, B: counted(0x2000)}}, api.ErrBus}, {[]api.Chunk{{At: 0, B: []byte{0}}}, api.ErrBus},
		{[]api.Chunk{{At: last, B: make([]byte, most+1)}}, api.ErrLong},
	} {
		if m, e := mach.NewMem(ram, c.junk...); m != nil || e != c.want {
			t.Errorf("NewMem of %d chunks: %v, error %d, want %d", len(c.junk), m != nil, e, c.want)
		}
	}
}

// places are addresses to either side of where ram, its pages and all addresses begin and end.
func places(ram api.Span) []uint64 {
	var l []uint64
	for _, at := range []uint64{0, ram.Base, ram.Base + 4096, ram.Base + ram.Size/2, ram.Base + ram.Size - most, ram.Base + ram.Size - 4096, ram.Base + ram.Size, top, 1 << 32, 1 << 63, -ram.Size, last - most + 1} {
		for _, d := range []uint64{0, 1, 2, 4, 7, 8, 9, 15, 16, 4095} {
			l = append(l, at+d, at-d)
		}
	}
	slices.Sort(l)
	return slices.Compact(l)
}

// counts are how many bytes an access may be of, and may not.
func counts() []uint64 {
	return []uint64{0, 1, 2, 7, 8, 9, 16, 4095, 4096, 4097, 8191, 8192, 8193, most - 1, most, most + 1, most + 8, 2 * most, 1 << 32, 1<<32 + 1, top, 1 << 63, last - 4095, last - 1, last}
}

// marked is a model with a few bytes in each page at an end of ram, and memory that has the same.
func marked(t *testing.T, ram api.Span) (model, *mach.Mem) {
	mo, m := model{ram, map[uint64]byte{}}, made(t, ram)
	for i, at := range places(ram) {
		if b := []byte{byte(i | 1), byte(i / 3), 0xff}; mo.has(at, 3) {
			mo.write(at, b)
			checkErr(t, "Write", m.Write(at, b), api.OK)
		}
	}
	return mo, m
}

func TestRead(t *testing.T) { // P9.3
	for _, ram := range rams() {
		mo, m := marked(t, ram)
		for _, at := range places(ram) {
			for _, n := range counts() {
				if e := mo.access(at, n); e != api.OK {
					checkNoRead(t, m, at, n, e)
				} else if n < most-1 || at%4096 == 0 {
					checkRead(t, m, at, mo.read(at, n))
				}
			}
		}
	}
}

func TestWrite(t *testing.T) { // P9.3: with an error nothing is written
	all := counted(2 * most)
	for _, ram := range rams() {
		mo, m := marked(t, ram)
		had := m.Touched()
		for _, at := range places(ram) {
			for _, n := range counts() {
				if n > 2*most || mo.access(at, n) == api.OK && n > 0 {
					continue
				}
				checkErr(t, fmt.Sprintf("Write of %d bytes to %#x", n, at), m.Write(at, all[:n]), mo.access(at, n))
			}
		}
		checkTouched(t, "nothing written", m, had...)
		for _, at := range places(ram) {
			if mo.has(at, 16) {
				checkRead(t, m, at, mo.read(at, 16))
			}
		}
	}
}

func TestWriteAll(t *testing.T) { // P9.3, P9.6
	for _, ram := range rams() {
		for _, at := range places(ram) {
			for _, n := range counts() {
				mo := model{ram, map[uint64]byte{}}
				if n > 0 && mo.access(at, n) == api.OK && (n < most-1 || at%4096 == 1) {
					m := made(t, ram)
					checkErr(t, fmt.Sprintf("Write of %d bytes to %#x", n, at), m.Write(at, counted(int(n))), api.OK)
					checkRead(t, m, at, counted(int(n)))
					checkAround(t, m, mo, at, n)
				}
			}
		}
	}
}

// checkAround asks for bytes 0 right ahead of n bytes and right behind them.
func checkAround(t *testing.T, m *mach.Mem, mo model, at, n uint64) {
	t.Helper()
	for _, beside := range []uint64{at - 1, at + n} {
		if mo.has(beside, 1) {
			checkRead(t, m, beside, []byte{0})
		}
	}
	var want []uint64
	for base := at / 4096 * 4096; base < at+n; base += 4096 {
		want = append(want, base)
	}
	checkTouched(t, fmt.Sprintf("%d bytes at %#x", n, at), m, want...)
}

func TestGreatestAccess(t *testing.T) { // P9.3: 2^20 bytes, and one more, in ram and outside
	ram := sp(0x40000000, 0x200000)
	m, b := made(t, ram), counted(most+1)
	for _, at := range []uint64{0x40000000, 0x40000001, 0x40000fff, 0x40100000} {
		checkErr(t, "Write of 2^20 bytes", m.Write(at, b[:most]), api.OK)
		checkRead(t, m, at, b[:most])
		checkErr(t, "Write of one more", m.Write(at, b), api.ErrLong)
		checkNoRead(t, m, at, most+1, api.ErrLong)
	}
	for _, at := range []uint64{0, 0x3fffffff, 0x40100001, 0x401fffff, 0x40200000, last - most, last - most + 1, last - 1, last} {
		checkErr(t, "Write of 2^20 bytes, outside", m.Write(at, b[:most]), api.ErrBus)
		checkNoRead(t, m, at, most, api.ErrBus)
		checkErr(t, "Write of one more, outside", m.Write(at, b), api.ErrLong)
		checkNoRead(t, m, at, most+1, api.ErrLong)
	}
}

func TestExample(t *testing.T) {
	m := made(t, sp(0x40000000, 0x2000))
	checkErr(t, "Put", m.Put(0x40000008, 1), api.OK)
	checkRead(t, m, 0x40000008, []byte{1, 0})
	checkNoRead(t, m, 0x40001fff, 2, api.ErrBus)
}

func TestZero(t *testing.T) { // P9.3
	ram := sp(0x40000000, 0x4000)
	spans := []api.Span{
		ram, sp(0x40000000, 1), sp(0x40003fff, 1), sp(0x40001000, 0x1000), sp(0x40000fff, 2), sp(0x40000001, 0x3ffe), sp(0x40000fff, 0x1002), sp(0x40001001, 0xfff),
		sp(0x40001000, 0xfff), sp(0x40000800, 0x2800), sp(0x40002000, 0x2000), sp(0x40000000, 0x3fff), sp(0x40000123, 0x100),
	}
	for _, s := range spans {
		mo, m := model{ram, map[uint64]byte{}}, made(t, ram)
		mo.write(ram.Base, counted(0x4000))
		checkErr(t, "Write", m.Write(ram.Base, counted(0x4000)), api.OK)
		for range 2 {
			checkErr(t, fmt.Sprintf("Zero(%#x)", s), m.Zero(s), api.OK)
			mo.zero(s)
			checkRead(t, m, ram.Base, mo.read(ram.Base, 0x4000))
			checkTouched(t, fmt.Sprintf("Zero(%#x)", s), m, mo.touched()...)
		}
	}
}

func TestZeroWrongSpans(t *testing.T) { // P9.3: nothing becomes 0 with an error
	ram := sp(0x40000000, 0x4000)
	m := made(t, ram, api.Chunk{At: ram.Base, B: counted(0x4000)})
	for _, s := range []api.Span{
		{}, sp(0x40000000, 0), sp(0x40001000, 0), sp(0x40003fff, 0), sp(last, 0), sp(0x3fffffff, 1), sp(0x3fffffff, 2), sp(0x3ffff000, 0x2000), sp(0x3fffffff, 0x4001), sp(0x3fffffff, 0x4002),
		sp(0x40000000, 0x4001), sp(0x40000001, 0x4000), sp(0x40003fff, 2), sp(0x40004000, 1), sp(0x40003000, 0x2000), sp(0, last), sp(0, top), sp(0, 1), sp(1, last), sp(0x40000000, last), sp(0x40001000, last-0x40000fff),
		sp(0x40001000, last-0x40000ffe), sp(0x40001000, last-0xfff), sp(0x40003000, last-0x1fff), sp(last, 1), sp(last, 2), sp(last, 0x40002000), sp(top, 4096), sp(1<<63, 1<<63),
	} {
		checkErr(t, fmt.Sprintf("Zero(%#x)", s), m.Zero(s), api.ErrBus)
	}
	checkRead(t, m, ram.Base, counted(0x4000))
}

func TestZeroOfGreatRam(t *testing.T) { // P9.3: of however large a span
	far := []uint64{0, 4096, 1 << 30, 1<<39 + 4096, top - 8192, top - 4096}
	fill := func() *mach.Mem {
		m := made(t, sp(0, top))
		for _, at := range far {
			checkErr(t, "Write", m.Write(at+5, counted(9)), api.OK)
		}
		return m
	}
	m := fill()
	checkTouched(t, "great", m, far...)
	checkErr(t, "Zero", m.Zero(sp(0, top)), api.OK)
	checkTouched(t, "all of a great ram", m)
	for _, at := range far {
		checkRead(t, m, at, make([]byte, 4096))
	}
	m = fill()
	checkErr(t, "Zero", m.Zero(sp(8, top-8-4096+8)), api.OK)
	checkTouched(t, "nearly all of it", m, 0, top-4096)
	checkRead(t, m, 0, []byte{0, 0, 0, 0, 0, 1, 2, 3, 0, 0, 0, 0, 0, 0, 0, 0})
	checkRead(t, m, top-4096, []byte{0, 0, 0, 0, 0, 0, 0, 0, 4, 5, 6, 7, 8, 9, 0, 0})
	m = fill()
	checkErr(t, "Zero", m.Zero(sp(4096, 4096)), api.OK)
	checkErr(t, "Zero", m.Zero(sp(top-4096+6, 4096-6)), api.OK)
	checkTouched(t, "a page of it", m, 0, 1<<30, 1<<39+4096, top-8192, top-4096)
	checkRead(t, m, top-4096, []byte{0, 0, 0, 0, 0, 1, 0, 0})
}

func TestWord(t *testing.T) { // P9.3
	for _, ram := range rams() {
		mo, m := marked(t, ram)
		for _, at := range places(ram) {
			want, e := uint64(0), api.ErrBus
			if at%8 == 0 && mo.has(at, 8) {
				want, e = binary.LittleEndian.Uint64(mo.read(at, 8)), api.OK
			}
			if got, f := m.Word(at); got != want || f != e {
				t.Errorf("Word(%#x) = %#x, error %d, want %#x, %d", at, got, f, want, e)
			}
		}
	}
}

func TestPut(t *testing.T) { // P9.3
	for _, ram := range rams() {
		mo, m := marked(t, ram)
		for _, at := range places(ram) {
			for _, w := range []uint64{0x0807060504030201, 0, 1, 1 << 63, last, 0xf1e2d3c4b5a69788} {
				e := api.ErrBus
				if at%8 == 0 && mo.has(at, 8) {
					e = api.OK
					mo.write(at, binary.LittleEndian.AppendUint64(nil, w))
				}
				checkErr(t, fmt.Sprintf("Put(%#x)", at), m.Put(at, w), e)
				if got, f := m.Word(at); f != e || e == api.OK && got != w {
					t.Errorf("Word(%#x) = %#x, error %d, want %#x, %d", at, got, f, w, e)
				}
			}
		}
		for _, at := range places(ram) {
			if mo.has(at-min(at, 8), 24) {
				checkRead(t, m, at-min(at, 8), mo.read(at-min(at, 8), 24))
			}
		}
		checkTouched(t, "words", m, mo.touched()...)
	}
}

func TestWordOrder(t *testing.T) { // P9.3: the lowest byte ahead
	m := made(t, sp(0x1000, 0x1000))
	checkErr(t, "Put", m.Put(0x1ff8, 0x0807060504030201), api.OK)
	checkRead(t, m, 0x1ff8, []byte{1, 2, 3, 4, 5, 6, 7, 8})
	checkErr(t, "Write", m.Write(0x1000, []byte{0xf8, 0xf7, 0xf6, 0xf5, 0xf4, 0xf3, 0xf2, 0xf1}), api.OK)
	if w, e := m.Word(0x1000); w != 0xf1f2f3f4f5f6f7f8 || e != api.OK {
		t.Errorf("%#x, error %d", w, e)
	}
	for d := uint64(1); d < 8; d++ {
		if w, e := m.Word(0x1000 + d); w != 0 || e != api.ErrBus {
			t.Errorf("Word at %d: %#x, error %d", d, w, e)
		}
		checkErr(t, "Put beside", m.Put(0x1000+d, last), api.ErrBus)
	}
	for _, at := range []uint64{0, 0xff8, 0xffc, 0x1ffc, 0x2000, last - 7, last - 3, last} {
		if w, e := m.Word(at); w != 0 || e != api.ErrBus {
			t.Errorf("Word(%#x): %#x, error %d", at, w, e)
		}
		checkErr(t, fmt.Sprintf("Put(%#x)", at), m.Put(at, last), api.ErrBus)
	}
	checkRead(t, m, 0x1000, []byte{0xf8, 0xf7, 0xf6, 0xf5, 0xf4, 0xf3, 0xf2, 0xf1, 0, 0, 0, 0, 0, 0, 0, 0})
}

func TestTouched(t *testing.T) { // P9.3
	m := made(t, sp(0x10000, 0x100000))
	checkErr(t, "Write", m.Write(0x13000, make([]byte, 0x8000)), api.OK)
	checkErr(t, "Put", m.Put(0x15000, 0), api.OK)
	checkTouched(t, "bytes 0", m)
	for _, at := range []uint64{0x17000, 0x10fff, 0x10f000, 0x12abc, 0x11000} {
		checkErr(t, "Write", m.Write(at, []byte{1}), api.OK)
	}
	checkTouched(t, "rising", m, 0x10000, 0x11000, 0x12000, 0x17000, 0x10f000)
	checkErr(t, "Write", m.Write(0x12abc, []byte{0}), api.OK)
	checkErr(t, "Write", m.Write(0x17001, []byte{2}), api.OK)
	checkErr(t, "Write", m.Write(0x17000, []byte{0}), api.OK)
	checkErr(t, "Put", m.Put(0x10ff8, 0), api.OK)
	checkTouched(t, "written over by 0", m, 0x11000, 0x17000, 0x10f000)
	checkErr(t, "Zero", m.Zero(sp(0x17001, 1)), api.OK)
	checkErr(t, "Zero", m.Zero(sp(0x11001, 0xfff)), api.OK)
	checkTouched(t, "a page, zeroed", m, 0x11000, 0x10f000)
	checkErr(t, "Write", m.Write(0x13ffe, []byte{0, 1, 0, 0}), api.OK)
	checkErr(t, "Write", m.Write(0x15ffe, []byte{0, 0, 1, 0}), api.OK)
	checkTouched(t, "across pages", m, 0x11000, 0x13000, 0x16000, 0x10f000)
	checkErr(t, "Zero", m.Zero(sp(0x10000, 0x100000)), api.OK)
	checkTouched(t, "all zeroed", m)
	checkErr(t, "Write", m.Write(0x13000, counted(0x3000)), api.OK)
	checkTouched(t, "written again", m, 0x13000, 0x14000, 0x15000)
}

func TestMemNobodyMade(t *testing.T) { // P9.3, P1
	for _, m := range []*mach.Mem{nil, {}, new(mach.Mem)} {
		for _, at := range []uint64{0, 8, 4096, top, last - 7, last} {
			for _, n := range counts() {
				want := api.ErrBus
				if n > most {
					want = api.ErrLong
				}
				checkNoRead(t, m, at, n, want)
				if n <= 2*most {
					checkErr(t, fmt.Sprintf("Write of %d bytes", n), m.Write(at, make([]byte, n)), want)
				}
				checkErr(t, "Zero", m.Zero(sp(at, n)), api.ErrBus)
			}
			checkErr(t, "Write", m.Write(at, nil), api.ErrBus)
			checkErr(t, "Put", m.Put(at, 1), api.ErrBus)
			if w, e := m.Word(at); w != 0 || e != api.ErrBus {
				t.Errorf("Word(%#x): %d, error %d", at, w, e)
			}
		}
		checkTouched(t, "nobody's", m)
	}
}

// checkGet asks for n bytes of a flash, of which there are len(all).
func checkGet(t *testing.T, f interface {
	Get(off, n uint32) ([]byte, api.Errno)
}, all []byte, off, n uint32) {
	t.Helper()
	var want []byte
	e := api.ErrFlash
	if n == 0 {
		e = api.OK
	} else if uint64(off)+uint64(n) <= uint64(len(all)) {
		want, e = all[off:uint64(off)+uint64(n)], api.OK
	}
	got, f2 := f.Get(off, n)
	if f2 != e || !bytes.Equal(got, want) {
		t.Errorf("Get(%d, %d) of %d: error %d, %x, want %d, %x", off, n, len(all), f2, short(got), e, short(want))
	}
	if e != api.OK && got != nil {
		t.Errorf("Get(%d, %d) of %d: %d bytes beside an error", off, n, len(all), len(got))
	}
}

func TestFlash(t *testing.T) { // P9.4
	for _, size := range []int{0, 1, 2, 15, 4096, 4097, most, most + 1, 2 * most} {
		all := counted(size)
		f := mach.Burn(all)
		if f == nil || f.Len() != size {
			t.Fatalf("Burn of %d bytes", size)
		}
		s := uint32(size)
		for _, off := range []uint32{0, 1, 2, s / 2, s - 2, s - 1, s, s + 1, 1 << 16, 1 << 31, -s, math.MaxUint32 - 1, math.MaxUint32} {
			for _, n := range []uint32{0, 1, 2, s / 2, s - 1, s, s + 1, s - off, s - off + 1, s - off - 1, -off, -off + 1, -off - 1, 1 << 31, math.MaxUint32} {
				checkGet(t, f, all, off, n)
			}
		}
	}
}

func TestFlashSums(t *testing.T) { // P9.4: where off and n add to 2^32, or just above
	f := mach.Burn(counted(16))
	for _, c := range [][2]uint32{{1, math.MaxUint32}, {math.MaxUint32, 1}, {2, math.MaxUint32}, {16, math.MaxUint32 - 15}, {1 << 31, 1 << 31}, {math.MaxUint32, math.MaxUint32}, {math.MaxUint32 - 3, 8}, {8, math.MaxUint32 - 3}} {
		if got, e := f.Get(c[0], c[1]); e != api.ErrFlash || got != nil {
			t.Errorf("Get(%d, %d): %x, error %d", c[0], c[1], got, e)
		}
	}
}

func TestFlashNobodyMade(t *testing.T) { // P9.4, P1
	for _, f := range []*mach.Flash{nil, {}, mach.Burn(nil), mach.Burn([]byte{})} {
		if f.Len() != 0 {
			t.Error("Len", f.Len())
		}
		for _, off := range []uint32{0, 1, 16, math.MaxUint32} {
			for _, n := range []uint32{0, 1, 16, math.MaxUint32} {
				checkGet(t, f, nil, off, n)
			}
		}
	}
}

func TestNew(t *testing.T) { // P9.5: which error, and which comes first
	bad, good := board(), board()
	bad.Cpus = 0
	long, fits := make([]byte, most+1), make([]byte, most)
	in, out, wide := api.Chunk{At: 0x40000000, B: []byte{1}}, api.Chunk{At: 0, B: []byte{1}}, api.Chunk{At: 0x40000000, B: make([]byte, most+1)}
	for i, c := range []struct {
		b     api.Board
		flash []byte
		junk  []api.Chunk
		want  api.Errno
	}{
		{good, nil, nil, api.OK}, {good, fits, []api.Chunk{in}, api.OK}, {good, []byte{}, []api.Chunk{}, api.OK},
		{bad, nil, nil, api.ErrBoard}, {bad, long, nil, api.ErrBoard}, {bad, nil, []api.Chunk{out}, api.ErrBoard}, {bad, long, []api.Chunk{wide}, api.ErrBoard}, {api.Board{}, nil, nil, api.ErrBoard},
		{good, long, nil, api.ErrLong}, {good, long, []api.Chunk{in}, api.ErrLong}, {good, long, []api.Chunk{out}, api.ErrLong}, {good, append(long, 1), []api.Chunk{in, out}, api.ErrLong},
		{good, nil, []api.Chunk{out}, api.ErrBus}, {good, fits, []api.Chunk{in, out}, api.ErrBus}, {good, fits, []api.Chunk{out, wide}, api.ErrBus},
		{good, fits, []api.Chunk{wide}, api.ErrLong}, {good, nil, []api.Chunk{wide, out}, api.ErrLong},
	} {
		m, e := mach.New(c.b, c.flash, c.junk...)
		if e != c.want || (m != nil) != (c.want == api.OK) {
			t.Errorf("New, case %d: %v, error %d, want %d", i, m != nil, e, c.want)
		}
	}
	for _, ram := range noRams() {
		b := board()
		b.Ram = ram
		if m, e := mach.New(b, nil); m != nil || e != api.ErrBoard {
			t.Errorf("New with ram %#x: %v, error %d", ram, m != nil, e)
		}
	}
}

func TestMachine(t *testing.T) { // P9.5: what Mem and Flash can do
	b := board()
	flash := counted(100)
	m, e := mach.New(b, flash, api.Chunk{At: 0x40002000, B: []byte{1, 2, 3}}, api.Chunk{At: 0x40002001, B: []byte{9}})
	if e != api.OK || m.Board != b {
		t.Fatalf("New: error %d, board %+v", e, m.Board)
	}
	checkRead(t, m, 0x40001fff, []byte{0, 1, 9, 3, 0})
	checkErr(t, "Write", m.Write(0x4000fffe, []byte{4, 5}), api.OK)
	checkErr(t, "Write", m.Write(0x4000ffff, []byte{4, 5}), api.ErrBus)
	checkErr(t, "Put", m.Put(0x40000008, 0x100), api.OK)
	checkErr(t, "Put", m.Put(0x40000009, 0x100), api.ErrBus)
	if w, e := m.Word(0x40000008); w != 0x100 || e != api.OK {
		t.Errorf("Word: %#x, error %d", w, e)
	}
	checkTouched(t, "a machine", m, 0x40000000, 0x40002000, 0x4000f000)
	checkErr(t, "Zero", m.Zero(sp(0x40000000, 0x8000)), api.OK)
	checkErr(t, "Zero", m.Zero(sp(0x40000000, 0x10001)), api.ErrBus)
	checkTouched(t, "a machine", m, 0x4000f000)
	if m.Len() != 100 {
		t.Error("Len", m.Len())
	}
	for _, c := range [][2]uint32{{0, 100}, {99, 1}, {99, 2}, {50, 0}, {500, 0}, {100, 1}} {
		checkGet(t, m, flash, c[0], c[1])
	}
	checkRead(t, m.Mem, 0x4000fffe, []byte{4, 5})
	checkGet(t, m.Flash, flash, 7, 8)
}

func TestMachineNobodyMade(t *testing.T) { // P1
	var m mach.Machine
	checkNoRead(t, m, 0, 8, api.ErrBus)
	checkErr(t, "Write", m.Write(0, []byte{1}), api.ErrBus)
	checkErr(t, "Zero", m.Zero(sp(0, 4096)), api.ErrBus)
	checkErr(t, "Put", m.Put(0, 1), api.ErrBus)
	checkTouched(t, "nobody's machine", m)
	checkGet(t, m, nil, 0, 1)
	if m.Len() != 0 {
		t.Error("Len", m.Len())
	}
}

func TestMachinesApart(t *testing.T) { // P3: each has memory of its own
	b := board()
	one, _ := mach.New(b, []byte{1})
	other, _ := mach.New(b, []byte{2})
	checkErr(t, "Write", one.Write(0x40000000, []byte{7}), api.OK)
	checkRead(t, other, 0x40000000, []byte{0})
	checkGet(t, one, []byte{1}, 0, 1)
	checkGet(t, other, []byte{2}, 0, 1)
}

func TestGivenListsStayAndAreNotKept(t *testing.T) { // P2: whole lists, with what lies behind their lengths
	whole, flash, text := counted(40), counted(5000), counted(9000)
	junk := []api.Chunk{{At: 0x40000ffc, B: whole[:8]}, {At: 0x40008000, B: whole[20:24]}, {At: 0, B: whole}}
	m, e := mach.New(board(), flash[:4000], junk[:2]...)
	checkErr(t, "New", e, api.OK)
	checkErr(t, "Write", m.Write(0x40004001, text[:8192]), api.OK)
	if !bytes.Equal(whole, counted(40)) || !bytes.Equal(flash, counted(5000)) || !bytes.Equal(text, counted(9000)) || junk[2].At != 0 || len(junk[1].B) != 4 {
		t.Fatal("what was given is changed")
	}
	clear(whole)
	clear(flash)
	clear(text)
	clear(junk)
	checkRead(t, m, 0x40000ffc, append(counted(8), 0, 0))
	checkRead(t, m, 0x40008000, append(counted(40)[20:24], 0))
	checkRead(t, m, 0x40004001, counted(8192))
	checkGet(t, m, counted(4000), 0, 4000)
	checkGet(t, m, counted(4000), 3999, 2)
}

func TestAnswersShareNothing(t *testing.T) { // P2: neither with what is kept nor with one another
	m, e := mach.New(board(), counted(5000), api.Chunk{At: 0x40003000, B: counted(0x3000)})
	checkErr(t, "New", e, api.OK)
	spoil := func(b []byte, e api.Errno) {
		checkErr(t, "an answer", e, api.OK)
		b = b[:cap(b)]
		for i := range b {
			b[i] = 0xee
		}
	}
	for _, n := range []uint64{0, 1, 8, 4096, 4097, 0x3000} {
		spoil(m.Read(0x40003000, n))
		spoil(m.Get(0, uint32(min(n, 5000))))
	}
	spoil(m.Read(0x40000000, 0x2000)) // where nothing was written
	l := m.Touched()
	clear(l[:cap(l)])
	checkRead(t, m, 0x40003000, append(counted(0x3000), 0))
	checkRead(t, m, 0x40000000, make([]byte, 0x2000))
	checkGet(t, m, counted(5000), 0, 5000)
	checkTouched(t, "after its answer was changed", m, 0x40003000, 0x40004000, 0x40005000)
}

// TestMemory does many things in an order that a number tells, and holds all of it against the model.
func TestMemory(t *testing.T) { // P9.6
	for seed := range int64(12) {
		pick := rand.New(rand.NewSource(seed))
		ram := sp([]uint64{0, 0x40000000, top - 0x5000}[seed%3], 0x5000)
		mo, m := model{ram, map[uint64]byte{}}, made(t, ram)
		for range 400 {
			at := ram.Base - 0x10 + uint64(pick.Intn(0x5020))
			n := uint64(pick.Intn([]int{4, 20, 5000}[pick.Intn(3)]))
			step(t, pick, mo, m, at, n)
		}
		checkRead(t, m, ram.Base, mo.read(ram.Base, ram.Size))
		checkTouched(t, "at the end", m, mo.touched()...)
	}
}

func step(t *testing.T, pick *rand.Rand, mo model, m *mach.Mem, at, n uint64) {
	t.Helper()
	switch pick.Intn(5) {
	case 0: // one in three times bytes 0
		b := make([]byte, n)
		if pick.Intn(3) > 0 {
			pick.Read(b)
		}
		e := mo.access(at, n)
		checkErr(t, "Write", m.Write(at, b), e)
		if e == api.OK {
			mo.write(at, b)
		}
	case 1:
		e := api.ErrBus
		if n > 0 && mo.has(at, n) {
			e = api.OK
			mo.zero(sp(at, n))
		}
		checkErr(t, "Zero", m.Zero(sp(at, n)), e)
	case 2:
		w, e := pick.Uint64()>>pick.Intn(65), api.ErrBus
		if at -= at % 8 * uint64(pick.Intn(2)); at%8 == 0 && mo.has(at, 8) {
			e = api.OK
			mo.write(at, binary.LittleEndian.AppendUint64(nil, w))
		}
		checkErr(t, "Put", m.Put(at, w), e)
	case 3:
		if e := mo.access(at, n); e != api.OK {
			checkNoRead(t, m, at, n, e)
		} else {
			checkRead(t, m, at, mo.read(at, n))
		}
	case 4:
		checkTouched(t, "on the way", m, mo.touched()...)
	}
}
