package frame_test

import (
	"fmt"
	"math"
	"math/big"
	"math/rand"
	"slices"
	"testing"

	"portreeve/api"
	"portreeve/frame"
)

const (
	page = 4096
	last = math.MaxUint64
	half = 1 << 63
)

func sp(base, size uint64) api.Span { return api.Span{Base: base, Size: size} }

// ended is a span that ends at 2^64 itself.
func ended(size uint64) api.Span { return sp(-size, size) }

// framesOf answers the first frame of s and how many there are, as P11.1 words it, in numbers that don't wrap.
func framesOf(s api.Span) (first, n uint64) {
	pages := big.NewInt(page)
	lo := new(big.Int).SetUint64(s.Base)
	hi := new(big.Int).Add(lo, new(big.Int).SetUint64(s.Size))
	if s.Size == 0 || hi.Cmp(new(big.Int).Lsh(big.NewInt(1), 64)) > 0 {
		return 0, 0
	}
	lo.Add(lo, big.NewInt(page-1)).Div(lo, pages)
	hi.Div(hi, pages)
	if lo.Cmp(hi) >= 0 {
		return 0, 0
	}
	n = new(big.Int).Sub(hi, lo).Uint64()
	return lo.Mul(lo, pages).Uint64(), n
}

// model is a pool of few frames as the document words it: frame by frame.
type model struct {
	first uint64
	used  []bool
}

func modelOf(s api.Span) *model {
	first, n := framesOf(s)
	return &model{first, make([]bool, n)}
}

func (m *model) at(i int) uint64 { return m.first + uint64(i)*page }

func (m *model) run(n int, align uint64) (uint64, api.Errno) {
	if n < 1 || n > 4096 || align == 0 || align%page != 0 {
		return 0, api.ErrRange
	}
	for i := 0; i+n <= len(m.used); i++ {
		if m.at(i)%align != 0 || slices.Contains(m.used[i:i+n], true) {
			continue
		}
		for j := range n {
			m.used[i+j] = true
		}
		return m.at(i), api.OK
	}
	return 0, api.ErrFrames
}

func (m *model) left() uint64 {
	n := uint64(0)
	for _, is := range m.used {
		if !is {
			n++
		}
	}
	return n
}

// places are those of a frame that Has is asked at.
func places() []uint64 { return []uint64{0, 1, 8, 2047, 4095} }

// check holds all that a pool tells against the model.
func (m *model) check(t *testing.T, what string, p *frame.Pool) {
	t.Helper()
	checkCount(t, what, p, m.left(), uint64(len(m.used))-m.left())
	for i, is := range m.used {
		for _, more := range places() {
			if got := p.Has(m.at(i) + more); got != is {
				t.Fatalf("%s: Has(%#x) = %v", what, m.at(i)+more, got)
			}
		}
	}
	for _, at := range m.outside() {
		if p.Has(at) {
			t.Fatalf("%s: Has(%#x), which is outside", what, at)
		}
	}
}

// outside are addresses of none of the model's frames: right ahead, right behind, and such as are so but for wrapping.
func (m *model) outside() []uint64 {
	size := uint64(len(m.used)) * page
	var out []uint64
	for _, at := range []uint64{m.first - 1, m.first - page, m.first + size, m.first + size + page - 1, m.first + half, m.first + 1<<32, 0, 1, half, last} {
		if at-m.first >= size {
			out = append(out, at)
		}
	}
	return out
}

func checkCount(t *testing.T, what string, p *frame.Pool, left, used uint64) {
	t.Helper()
	if p.Left() != left || p.Used() != used {
		t.Fatalf("%s: Left %d, Used %d, want %d, %d", what, p.Left(), p.Used(), left, used)
	}
}

// checkRun asks for frames, and that they are just those at the address.
func checkRun(t *testing.T, p *frame.Pool, n int, align, want uint64) {
	t.Helper()
	left, used := p.Left(), p.Used()
	if at, e := p.Run(n, align); at != want || e != api.OK {
		t.Fatalf("Run(%d, %#x) = %#x, error %d, want %#x", n, align, at, e, want)
	}
	checkCount(t, fmt.Sprintf("behind Run(%d, %#x)", n, align), p, left-uint64(n), used+uint64(n))
	for _, at := range []uint64{want, want + uint64(n)*page - 1} {
		if !p.Has(at) {
			t.Fatalf("behind Run(%d, %#x): not Has(%#x)", n, align, at)
		}
	}
}

// checkNone asks for frames, and for the error and that nothing is handed out.
func checkNone(t *testing.T, p *frame.Pool, n int, align uint64, want api.Errno) {
	t.Helper()
	left, used := p.Left(), p.Used()
	if at, e := p.Run(n, align); at != 0 || e != want {
		t.Fatalf("Run(%d, %#x) = %#x, error %d, want error %d", n, align, at, e, want)
	}
	checkCount(t, fmt.Sprintf("behind the error of Run(%d, %#x)", n, align), p, left, used)
}

func checkAlloc(t *testing.T, p *frame.Pool, want uint64, err api.Errno) {
	t.Helper()
	if at, e := p.Alloc(); at != want || e != err {
		t.Fatalf("Alloc = %#x, error %d, want %#x, %d", at, e, want, err)
	}
}

// free asks which frames from first on are free, by Has alone.
func free(p *frame.Pool, first, n uint64) []uint64 {
	var l []uint64
	for i := range n {
		if !p.Has(first + i*page) {
			l = append(l, first+i*page)
		}
	}
	return l
}

func TestExample(t *testing.T) { // the chapter's first example
	p := frame.New(sp(0x1000, 0x4000))
	checkAlloc(t, p, 0x1000, api.OK)
	checkRun(t, p, 2, 0x2000, 0x2000)
	checkAlloc(t, p, 0x4000, api.OK)
	checkAlloc(t, p, 0, api.ErrFrames)
	checkCount(t, "in the end", p, 0, 4)
}

// bounds are spans at whose ends frames are counted wrongly, each with its first frame and how many it has.
func bounds() []struct {
	s        api.Span
	first, n uint64
} {
	return []struct {
		s        api.Span
		first, n uint64
	}{
		{sp(0, 0), 0, 0}, {sp(page, 0), 0, 0}, {sp(last, 0), 0, 0}, // empty
		{sp(last, 2), 0, 0}, {sp(1, last), page, 1<<52 - 1}, {sp(2, last), 0, 0}, {sp(half, half+1), 0, 0}, // that wrap, or nearly so
		{sp(last-4095, 8192), 0, 0}, {sp(page, last), 0, 0}, {sp(last, last), 0, 0},
		{sp(0, 1), 0, 0}, {sp(0, 4095), 0, 0}, {sp(1, 4095), 0, 0}, {sp(1, 4096), 0, 0}, {sp(1, 8190), 0, 0}, // no whole frame
		{sp(4095, 4096), 0, 0}, {sp(4097, 8190), 0, 0}, {sp(last, 1), 0, 0}, {ended(4095), 0, 0}, {sp(last-4094, 4094), 0, 0},
		{sp(0, 4096), 0, 1}, {sp(0, 4097), 0, 1}, {sp(0, 8191), 0, 1}, {sp(1, 8191), page, 1}, {sp(4095, 4097), page, 1}, // one frame
		{sp(page, page), page, 1}, {sp(4095, 4098), page, 1}, {sp(4097, 8191), 2 * page, 1}, {sp(1, 12286), page, 1},
		{ended(4096), last - 4095, 1}, {ended(4097), last - 4095, 1}, {ended(8191), last - 4095, 1}, {sp(last-8192, 8192), last - 8191, 1},
		{sp(0, 8192), 0, 2}, {sp(0x1000, 0x4000), 0x1000, 4}, {sp(0x1001, 0x3fff), 0x2000, 3}, {sp(0xfff, 0x4001), 0x1000, 4},
		{sp(0x1000, 0x4fff), 0x1000, 4}, {sp(0x1000, 0x3fff), 0x1000, 3}, {sp(0x1001, 0x4fff), 0x2000, 4}, {sp(0xfff, 0x4000), 0x1000, 3},
		{ended(8192), last - 8191, 2}, {ended(12287), last - 8191, 2}, {ended(half), half, 1 << 51},
		{sp(0x40000000, 0x40000000), 0x40000000, 1 << 18},
		{sp(0, last), 0, 1<<52 - 1}, {sp(0, last-4095), 0, 1<<52 - 1}, {sp(0, last-4096), 0, 1<<52 - 2}, {sp(page, last-4095), page, 1<<52 - 1}, // of nearly 2^64 bytes
		{sp(2, last-1), page, 1<<52 - 1}, {sp(4097, last-4096), 2 * page, 1<<52 - 2}, {sp(0, half), 0, 1 << 51}, {sp(1, last-1), page, 1<<52 - 2},
	}
}

func TestNew(t *testing.T) { // P11.1
	for _, c := range bounds() {
		what := fmt.Sprintf("New(%#x)", c.s)
		if first, n := framesOf(c.s); first != c.first || n != c.n {
			t.Fatalf("%s: the test's own counts say %#x, %d", what, first, n)
		}
		p := frame.New(c.s)
		if p == nil {
			t.Fatal(what, "is nil")
		}
		checkCount(t, what, p, c.n, 0)
		for _, at := range []uint64{0, c.s.Base, c.first, c.s.Base + c.s.Size - 1, last} {
			if p.Has(at) {
				t.Errorf("%s: Has(%#x), and none was handed out", what, at)
			}
		}
		if c.n == 0 {
			checkAlloc(t, p, 0, api.ErrFrames)
			checkCount(t, what, p, 0, 0)
			continue
		}
		checkRun(t, p, 1, page, c.first)
		if p.Has(c.first-1) || p.Has(c.first+page) {
			t.Errorf("%s: more than its first frame is handed out", what)
		}
	}
}

func TestNewAtEdges(t *testing.T) { // P11.1: which first frame, how many
	var numbers []uint64
	for _, near := range []uint64{0, page, 2 * page, half, last - 8191, last - 4095} {
		for _, more := range []uint64{0, 1, 2, 4094, 4095} {
			numbers = append(numbers, near+more)
		}
	}
	for _, base := range numbers {
		for _, size := range numbers {
			s := sp(base, size)
			first, n := framesOf(s)
			p := frame.New(s)
			checkCount(t, fmt.Sprintf("New(%#x)", s), p, n, 0)
			if n == 0 {
				checkNone(t, p, 1, page, api.ErrFrames)
			} else {
				checkRun(t, p, 1, page, first)
			}
		}
	}
}

func TestLastFrame(t *testing.T) { // P11.1, P11.2: it is in the pool, and the one behind it isn't
	for _, c := range bounds() {
		if c.n < 2 {
			continue
		}
		p, end := frame.New(c.s), c.first+(c.n-1)*page
		if c.first == 0 {
			checkRun(t, p, 1, end, 0) // a multiple of all
		}
		checkNone(t, p, 2, end, api.ErrFrames)
		checkRun(t, p, 1, end, end) // no other frame is a multiple of its address
		if !p.Has(end) || p.Has(end+page) {
			t.Errorf("New(%#x): what is handed out isn't its last frame", c.s)
		}
	}
}

func TestRunRange(t *testing.T) { // P11.2: which numbers may not be
	aligns := []uint64{0, 1, 2, 4, 2048, 4095, 4097, 6144, 8191, 8193, 1<<20 + 1, half + 1, half + 2048, last, last - 1, last - 4094, last - 4096}
	counts := []int{0, -1, -2, -4096, 4097, 4098, 8192, 1 << 31, 1 << 32, 1<<32 + 1, 1<<52 + 1, -1 << 31, -1 << 32, 1 - 1<<32, math.MaxInt, math.MinInt, math.MinInt + 1}
	for _, p := range []*frame.Pool{frame.New(sp(0, 1<<30)), frame.New(sp(0, 0)), frame.New(sp(0, last)), new(frame.Pool), nil} {
		for _, align := range aligns {
			for _, n := range []int{1, 2, 4096, 0, -1, 4097} {
				checkNone(t, p, n, align, api.ErrRange)
			}
		}
		for _, n := range counts {
			for _, align := range []uint64{page, 2 * page, 3 * page, half, 0, 1} {
				checkNone(t, p, n, align, api.ErrRange)
			}
		}
		checkCount(t, "all of them errors", p, p.Left(), 0)
	}
}

func TestRunOfManyFrames(t *testing.T) { // P11.2: n of 4096 and around it
	for _, frames := range []uint64{4095, 4096, 4097, 8191, 8192, 10000} {
		p := frame.New(sp(0x10000000, frames*page))
		checkNone(t, p, 4097, page, api.ErrRange)
		for at := uint64(0); at+4096 <= frames; at += 4096 {
			checkRun(t, p, 4096, page, 0x10000000+at*page)
		}
		checkNone(t, p, 4096, page, api.ErrFrames)
		if rest := int(frames % 4096); rest > 0 {
			checkNone(t, p, rest+1, page, api.ErrFrames)
			checkRun(t, p, rest, page, 0x10000000+(frames-frames%4096)*page)
		}
		checkCount(t, "in the end", p, 0, frames)
		checkAlloc(t, p, 0, api.ErrFrames)
	}
}

func TestAlignBeyondThePool(t *testing.T) { // P11.2
	p := frame.New(sp(0x5000, 0x4000))
	for _, align := range []uint64{0x9000, 0xa000, 0x10000, 0x100000, 1 << 40, half, last - 4095, half - 4096, last - 8191} {
		for _, n := range []int{1, 4, 4096} {
			checkNone(t, p, n, align, api.ErrFrames)
		}
	}
	checkNone(t, p, 2, 0x8000, api.ErrFrames) // its multiple is there, and then one frame alone
	checkRun(t, p, 1, 0x8000, 0x8000)
	checkNone(t, p, 1, 0x8000, api.ErrFrames)
	checkRun(t, p, 1, 0x7000, 0x7000)
	checkRun(t, p, 2, 0x5000, 0x5000)
	checkCount(t, "in the end", p, 0, 4)
}

func TestAlignOfFrameNought(t *testing.T) { // P11.2: 0 is a multiple of each align
	for _, align := range []uint64{page, 2 * page, 3 * page, 5 * page, 1 << 40, half, half + page, last - 4095} {
		for _, n := range []int{1, 2, 16, 4096} {
			p := frame.New(sp(0, 4096*page))
			checkRun(t, p, n, align, 0)
		}
	}
}

func TestNextMultipleBeyondTheEnd(t *testing.T) { // P11.2: it would be 2^64 or more
	for _, s := range []api.Span{ended(3 * page), ended(3*page + 1), sp(last-3*page, 3*page+1)} {
		p := frame.New(s)
		for _, align := range []uint64{4 * page, 1 << 20, 1 << 32, half, half + page, last - 4*page + 1, last - 8*page + 1} {
			checkNone(t, p, 1, align, api.ErrFrames)
		}
		checkNone(t, p, 3, 2*page, api.ErrFrames) // from the multiple on it would end beyond 2^64
		checkNone(t, p, 4, page, api.ErrFrames)
		checkNone(t, p, 4096, page, api.ErrFrames)
		checkRun(t, p, 1, last-4095, last-4095) // 2^64 less a frame is a multiple of itself
		checkNone(t, p, 1, last-4095, api.ErrFrames)
		checkRun(t, p, 2, page, last-3*page+1)
		checkNone(t, p, 1, page, api.ErrFrames)
	}
	p := frame.New(sp(page, last-4095)) // all frames but the one at 0
	checkRun(t, p, 1, half, half)
	checkNone(t, p, 1, half, api.ErrFrames)
	checkRun(t, p, 2, last-8191, last-8191)
	checkNone(t, p, 1, last-8191, api.ErrFrames)
	checkNone(t, p, 1, last-4095, api.ErrFrames)
	checkRun(t, p, 4096, half+page, half+page)
	checkRun(t, p, 1, page, page)
	checkCount(t, "in the end", p, 1<<52-1-1-2-4096-1, 1+2+4096+1)
}

func TestAlignThatIsNoPowerOfTwo(t *testing.T) { // P11.2
	p := frame.New(sp(0x1000, 0x20000))
	checkRun(t, p, 1, 0x3000, 0x3000)
	checkRun(t, p, 1, 0x3000, 0x6000)
	checkRun(t, p, 3, 0x5000, 0xa000) // at 0x5000 one frame alone is free
	checkRun(t, p, 1, 0x5000, 0x5000)
	checkRun(t, p, 2, 0x7000, 0x7000)
	checkRun(t, p, 3, 0x3000, 0xf000)  // 0x9000 has one frame, 0xc000 none
	checkRun(t, p, 1, 0x7000, 0xe000)  // the frame behind it is handed out
	checkRun(t, p, 2, 0xd000, 0x1a000) // at 0xd000 one frame alone is free
	checkNone(t, p, 1, 0x11000, api.ErrFrames)
	checkRun(t, p, 1, 0x12000, 0x12000)
}

func TestLowestBetween(t *testing.T) { // P11.2: between frames that are handed out
	p := frame.New(sp(0x10000, 0x20000))
	for i := range uint64(16) {
		checkRun(t, p, 1, 0x2000, 0x10000+i*0x2000) // each second frame
	}
	checkNone(t, p, 1, 0x2000, api.ErrFrames)
	checkNone(t, p, 2, page, api.ErrFrames) // 16 are free, and no two in a row
	checkCount(t, "each second frame", p, 16, 16)
	checkNone(t, p, 1, 0x4000, api.ErrFrames)
	checkRun(t, p, 1, 0x3000, 0x15000)
	checkAlloc(t, p, 0x11000, api.OK)
	checkAlloc(t, p, 0x13000, api.OK)
	checkAlloc(t, p, 0x17000, api.OK)
	checkRun(t, p, 1, 0x1f000, 0x1f000)
	for _, at := range []uint64{0x19000, 0x1b000, 0x1d000, 0x21000} {
		checkAlloc(t, p, at, api.OK)
	}
	checkCount(t, "in the end", p, 7, 25)
}

func TestLowestWhereItFits(t *testing.T) { // P11.2: stretches that are too short, long enough, and long but not from a multiple on
	p := frame.New(sp(0x1000, 0x20000))
	checkRun(t, p, 1, 0x4000, 0x4000)   // free: 0x1000 to 0x3000
	checkRun(t, p, 1, 0xa000, 0xa000)   // free: 0x5000 to 0x9000
	checkRun(t, p, 1, 0x10000, 0x10000) // free: 0xb000 to 0xf000, 0x11000 to 0x20000
	checkRun(t, p, 4, page, 0x5000)     // not the first one, which is too short
	checkRun(t, p, 4, 0x4000, 0xc000)   // nor 0x9000, nor from 0xb000 on
	checkRun(t, p, 3, 0x2000, 0x12000)  // 0x2000 has two frames alone
	checkRun(t, p, 2, 0x2000, 0x2000)
	checkRun(t, p, 2, page, 0x15000) // 0x1000, 0x9000, 0xb000, 0x11000 stand alone
	if got, want := free(p, 0x1000, 22), []uint64{0x1000, 0x9000, 0xb000, 0x11000}; !slices.Equal(got, want) {
		t.Errorf("free are %#x, want %#x", got, want)
	}
	for _, at := range []uint64{0x1000, 0x9000, 0xb000, 0x11000, 0x17000} {
		checkAlloc(t, p, at, api.OK)
	}
	checkRun(t, p, 9, page, 0x18000)
	checkAlloc(t, p, 0, api.ErrFrames)
}

func TestStretchThatJustFits(t *testing.T) { // P11.2: it is as long as what is asked for, or a frame less
	p := frame.New(sp(0x10000, 0x10000))
	checkRun(t, p, 1, 0x13000, 0x13000)
	checkRun(t, p, 1, 0x18000, 0x18000)
	checkRun(t, p, 4, page, 0x14000) // all of the second stretch
	checkNone(t, p, 8, page, api.ErrFrames)
	checkRun(t, p, 3, page, 0x10000) // all of the first one
	checkRun(t, p, 7, page, 0x19000) // all that is left
	checkCount(t, "in the end", p, 0, 16)
	checkAlloc(t, p, 0, api.ErrFrames)
}

func TestNothingIsJoinedAcross(t *testing.T) { // P11.2, P11.4: a row doesn't lie over a frame that is handed out
	p := frame.New(sp(0, 9*page))
	checkRun(t, p, 1, 4*page, 0)
	checkRun(t, p, 1, 4*page, 4*page)
	checkNone(t, p, 5, page, api.ErrFrames)
	checkRun(t, p, 4, page, 5*page)
	checkNone(t, p, 4, page, api.ErrFrames)
	checkRun(t, p, 3, page, page)
}

func TestToTheLastFrame(t *testing.T) { // P11.2, P11.3
	for _, n := range []uint64{1, 2, 7, 300} {
		for _, s := range []api.Span{sp(0, n*page), sp(0x40000000, n*page+4095), ended(n * page), sp(half-1, n*page+1)} {
			p, first, m := frame.New(s), uint64(0), modelOf(s)
			first, _ = framesOf(s)
			for i := range n {
				m.used[i] = true
				checkAlloc(t, p, first+i*page, api.OK)
				checkCount(t, fmt.Sprintf("frame %d", i), p, n-i-1, i+1)
			}
			for range 3 {
				checkAlloc(t, p, 0, api.ErrFrames)
				checkNone(t, p, 4096, page, api.ErrFrames)
				checkNone(t, p, 1, half, api.ErrFrames)
				checkNone(t, p, 0, page, api.ErrRange)
			}
			m.check(t, "all handed out", p)
		}
	}
}

func TestAllocIsRunOfOne(t *testing.T) { // P11.2
	for seed := range int64(20) {
		pick := rand.New(rand.NewSource(seed))
		s := sp(uint64(pick.Intn(20000)), 200000)
		one, other := frame.New(s), frame.New(s)
		for range 60 {
			n, align := 1+pick.Intn(3), page*uint64(1+pick.Intn(4))
			a, ea := one.Run(n, align)
			b, eb := other.Run(n, align)
			if a != b || ea != eb {
				t.Fatal("two pools of one span differ")
			}
			a, ea = one.Alloc()
			b, eb = other.Run(1, page)
			if a != b || ea != eb {
				t.Fatalf("Alloc = %#x, error %d, Run(1, 4096) = %#x, error %d", a, ea, b, eb)
			}
			checkCount(t, "the other", other, one.Left(), one.Used())
		}
	}
}

func TestHas(t *testing.T) { // P11.3
	p := frame.New(sp(0x1800, 0x5000)) // frames from 0x2000 to 0x5000
	checkRun(t, p, 1, 0x3000, 0x3000)
	for _, c := range []struct {
		at  uint64
		has bool
	}{
		{0, false}, {0x1800, false}, {0x1fff, false}, // ahead of the frames
		{0x2000, false}, {0x2001, false}, {0x2fff, false}, // a free one
		{0x3000, true}, {0x3001, true}, {0x3800, true}, {0x3fff, true},
		{0x4000, false}, {0x5fff, false}, {0x6000, false}, {0x67ff, false}, {0x6800, false},
		{0x3000 + 1<<32, false}, {0x3000 + half, false}, {last, false}, {last - 4095, false},
	} {
		if p.Has(c.at) != c.has {
			t.Errorf("Has(%#x) = %v", c.at, !c.has)
		}
	}
	for range 3 {
		p.Alloc()
	}
	for at := uint64(0x1000); at < 0x8000; at += 0x3ff {
		if got, want := p.Has(at), 0x2000 <= at && at < 0x6000; got != want {
			t.Errorf("all handed out: Has(%#x) = %v", at, got)
		}
	}
}

func TestHasAtTheEnds(t *testing.T) { // P11.3: of the addresses
	p := frame.New(sp(0, 2*page))
	p.Alloc()
	if !p.Has(0) || !p.Has(page-1) || p.Has(page) || p.Has(last) || p.Has(half) {
		t.Error("the first frame")
	}
	p = frame.New(ended(2 * page))
	checkRun(t, p, 1, last-4095, last-4095)
	if !p.Has(last) || !p.Has(last-4095) || p.Has(last-4096) || p.Has(0) || p.Has(half-1) {
		t.Error("the last frame")
	}
	checkCount(t, "the last frame", p, 1, 1)
	checkAlloc(t, p, last-8191, api.OK)
	checkAlloc(t, p, 0, api.ErrFrames)
}

// TestPool does many things in an order that a number tells, and holds all of it against the model.
func TestPool(t *testing.T) { // P11.1 to P11.4
	for seed := range int64(400) {
		pick := rand.New(rand.NewSource(seed))
		size := uint64(pick.Intn(60 * page))
		base := []uint64{0, uint64(pick.Intn(5 * page)), 0x40000000, half - uint64(pick.Intn(30*page)), -size, -size - uint64(pick.Intn(3*page))}[pick.Intn(6)]
		s := sp(base, size)
		p, m := frame.New(s), modelOf(s)
		m.check(t, fmt.Sprintf("seed %d, new", seed), p)
		handed := map[uint64]bool{}
		for k := range 60 {
			n, align := pick.Intn(5), page*uint64(pick.Intn(9))
			what := fmt.Sprintf("seed %d, thing %d: Run(%d, %#x) of %#x", seed, k, n, align, s)
			at, e := p.Run(n, align)
			if want, we := m.run(n, align); at != want || e != we {
				t.Fatalf("%s = %#x, error %d, want %#x, %d", what, at, e, want, we)
			}
			m.check(t, what, p)
			if e == api.OK {
				handedOut(t, what, handed, s, at, n)
			}
		}
		if uint64(len(handed)) != p.Used() {
			t.Errorf("seed %d: %d frames were handed out, Used %d", seed, len(handed), p.Used())
		}
	}
}

// handedOut holds frames against those that were handed out ahead of them, and against the span.
func handedOut(t *testing.T, what string, handed map[uint64]bool, s api.Span, at uint64, n int) {
	t.Helper()
	for i := range uint64(n) {
		f := at + i*page
		if handed[f] {
			t.Fatalf("%s: %#x is handed out twice", what, f)
		}
		handed[f] = true
		if f%page != 0 || f < s.Base || f+(page-1) < f || f+(page-1) > s.Base+(s.Size-1) {
			t.Fatalf("%s: %#x isn't in %#x", what, f, s)
		}
	}
}

func TestManyFrames(t *testing.T) { // P11.4: over many calls, in a great pool
	s := sp(0x40000800, 1<<34)
	p, handed, used := frame.New(s), map[uint64]bool{}, uint64(0)
	pick := rand.New(rand.NewSource(1))
	for k := range 3000 {
		n, align := 1+pick.Intn(40), page*uint64(1+pick.Intn(100))
		at, e := p.Run(n, align)
		if e != api.OK || at%align != 0 {
			t.Fatalf("Run(%d, %#x) = %#x, error %d", n, align, at, e)
		}
		handedOut(t, fmt.Sprintf("call %d", k), handed, s, at, n)
		used += uint64(n)
		checkCount(t, fmt.Sprintf("call %d", k), p, 1<<22-1-used, used)
	}
	for at := uint64(0x40000000); at < 0x41000000; at += page {
		if p.Has(at+5) != handed[at] {
			t.Fatalf("Has(%#x)", at+5)
		}
	}
}

func TestPoolNobodyMade(t *testing.T) { // P11.3, P1
	var in struct {
		frame.Pool
		more int
	}
	for _, p := range []*frame.Pool{nil, {}, new(frame.Pool), &in.Pool} {
		for range 2 {
			checkCount(t, "nobody's", p, 0, 0)
			checkAlloc(t, p, 0, api.ErrFrames)
			for _, n := range []int{1, 2, 4096} {
				for _, align := range []uint64{page, 3 * page, half, last - 4095} {
					checkNone(t, p, n, align, api.ErrFrames)
				}
			}
			checkNone(t, p, 0, page, api.ErrRange)
			checkNone(t, p, 4097, page, api.ErrRange)
			checkNone(t, p, 1, 0, api.ErrRange)
			checkNone(t, p, 1, 1, api.ErrRange)
			for _, at := range []uint64{0, 1, page, half, last} {
				if p.Has(at) {
					t.Errorf("nobody's Has(%#x)", at)
				}
			}
		}
	}
}

func TestMethodsAsValues(t *testing.T) { // P11.3: what is asked of the bounds, asked through the pool
	p := frame.New(sp(0x1001, 0x4000)) // frames from 0x2000 to 0x4000
	var asked interface {
		Left() uint64
		Used() uint64
		Has(uint64) bool
	} = p
	left, used, has, alloc := p.Left, p.Used, p.Has, p.Alloc
	for i := range uint64(4) {
		if left() != 3-i || used() != i || asked.Left() != 3-i || asked.Used() != i {
			t.Errorf("%d handed out: %d, %d", i, left(), used())
		}
		for at := uint64(0x1000); at < 0x7000; at += 0x800 {
			if want := 0x2000 <= at && at < 0x2000+i*page; has(at) != want || asked.Has(at) != want {
				t.Errorf("%d handed out: Has(%#x)", i, at)
			}
		}
		alloc()
	}
	var builder struct{ *frame.Pool }
	builder.Pool = frame.New(sp(0, 2*page))
	if at, e := builder.Run(2, 2*page); at != 0 || e != api.OK || builder.Left() != 0 || builder.Used() != 2 || !builder.Has(page) {
		t.Error("through a struct that embeds the pool")
	}
}

func TestPoolsApart(t *testing.T) { // P2, P3: two of one span have nothing in common
	s := sp(0, 8*page)
	one, other := frame.New(s), frame.New(s)
	checkRun(t, one, 1, 2*page, 0)
	checkRun(t, one, 1, 2*page, 2*page)
	checkCount(t, "the other", other, 8, 0)
	if other.Has(0) || other.Has(2*page) {
		t.Error("the other has what the one handed out")
	}
	checkRun(t, other, 8, page, 0)
	checkCount(t, "the one", one, 6, 2)
	checkAlloc(t, one, page, api.OK)
}

func TestAskingChangesNothing(t *testing.T) { // P3: the same answer each time
	p := frame.New(sp(0, 16*page))
	checkRun(t, p, 2, 3*page, 0)
	checkRun(t, p, 2, 3*page, 3*page)
	for range 3 {
		checkCount(t, "asked", p, 12, 4)
		if got, want := free(p, 0, 6), []uint64{2 * page, 5 * page}; !slices.Equal(got, want) {
			t.Errorf("free are %#x, want %#x", got, want)
		}
		checkNone(t, p, 12, page, api.ErrFrames)
	}
	checkAlloc(t, p, 2*page, api.OK)
}
