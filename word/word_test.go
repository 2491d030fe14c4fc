package word_test

import (
	"bytes"
	"fmt"
	"math"
	"math/big"
	"slices"
	"testing"

	"portreeve/word"
)

// numbers are those at whose edges carries, shifts and signs go wrong.
func numbers() []uint64 {
	l := []uint64{0, 0x0102030405060708, 0xfedcba9876543210, math.MaxUint64}
	for i := range 64 {
		one := uint64(1) << i
		l = append(l, one, one-1, one+1, -one)
	}
	return l
}

// reader is a call of P1.1, made wide enough for both sizes.
type reader struct {
	name string
	size int
	read func(b []byte, at int) (uint64, bool)
	want uint64 // of the bytes 81 02 .. 08, from the first on
}

func wide(f func([]byte, int) (uint32, bool)) func([]byte, int) (uint64, bool) {
	return func(b []byte, at int) (uint64, bool) {
		n, is := f(b, at)
		return uint64(n), is
	}
}

func readers() []reader {
	return []reader{
		{"Be32", 4, wide(word.Be32), 0x81020304},
		{"Be64", 8, word.Be64, 0x8102030405060708},
		{"Le32", 4, wide(word.Le32), 0x04030281},
		{"Le64", 8, word.Le64, 0x0807060504030281},
	}
}

func TestRead(t *testing.T) { // P1.1
	eight := []byte{0x81, 2, 3, 4, 5, 6, 7, 8}
	for _, r := range readers() {
		for at := range 5 {
			b := append(bytes.Repeat([]byte{0xee}, at), eight...)
			whole := slices.Clone(b)
			if n, is := r.read(b, at); n != r.want || !is {
				t.Errorf("%s at %d: %#x, %v; want %#x", r.name, at, n, is, r.want)
			}
			if !bytes.Equal(b, whole) {
				t.Errorf("%s at %d changes what it reads", r.name, at)
			}
		}
	}
}

func TestReadBounds(t *testing.T) { // P1.1: the number lies in b, or it is none
	for _, r := range readers() {
		for n := range 20 {
			// What lies behind the length is there, but isn't b's.
			b := bytes.Repeat([]byte{0xff}, n+16)[:n]
			for at := -20; at < 40; at++ {
				got, is := r.read(b, at)
				inside := at >= 0 && at+r.size <= n
				if is != inside || !is && got != 0 {
					t.Errorf("%s of %d bytes at %d: %#x, %v", r.name, n, at, got, is)
				}
			}
			for _, at := range []int{math.MinInt, math.MinInt + 1, math.MinInt + 8, math.MaxInt - 8, math.MaxInt - 7, math.MaxInt - 3, math.MaxInt, math.MinInt32, math.MaxInt32} {
				if got, is := r.read(b, at); got != 0 || is {
					t.Errorf("%s of %d bytes at %d: %#x, %v", r.name, n, at, got, is)
				}
			}
		}
		for _, at := range []int{-1, 0, 1} {
			if got, is := r.read(nil, at); got != 0 || is {
				t.Errorf("%s of nil at %d: %#x, %v", r.name, at, got, is)
			}
		}
	}
}

// writer is a call of P1.2 with one list of numbers, its bytes beside it.
type writer struct {
	name string
	put  func(b []byte) []byte
	want string
}

func writers() []writer {
	return []writer{
		{"PutBe32", func(b []byte) []byte { return word.PutBe32(b, 1, 258, 0x89abcdef) }, "00000001" + "00000102" + "89abcdef"},
		{"PutLe32", func(b []byte) []byte { return word.PutLe32(b, 1, 258, 0x89abcdef) }, "01000000" + "02010000" + "efcdab89"},
		{"PutBe64", func(b []byte) []byte { return word.PutBe64(b, 258, 0x8123456789abcdef) }, "0000000000000102" + "8123456789abcdef"},
		{"PutLe64", func(b []byte) []byte { return word.PutLe64(b, 258, 0x8123456789abcdef) }, "0201000000000000" + "efcdab8967452381"},
		{"PutBe32 of none", func(b []byte) []byte { return word.PutBe32(b) }, ""},
		{"PutLe32 of none", func(b []byte) []byte { return word.PutLe32(b) }, ""},
		{"PutBe64 of none", func(b []byte) []byte { return word.PutBe64(b, []uint64{}...) }, ""},
		{"PutLe64 of none", func(b []byte) []byte { return word.PutLe64(b, nil...) }, ""},
		{"Cat of one", func(b []byte) []byte { return word.Cat(b) }, ""},
		{"Cat of more", func(b []byte) []byte { return word.Cat(nil, b, []byte{}, []byte{7, 8}) }, "0708"},
	}
}

func TestPut(t *testing.T) { // P1.2
	for _, w := range writers() {
		for _, b := range [][]byte{nil, {}, {0xaa}, {0xaa, 0xbb, 0xcc, 0xdd, 0xee}} {
			if got := w.put(b); fmt.Sprintf("%x", got) != fmt.Sprintf("%x", b)+w.want {
				t.Errorf("%s behind %x: %x", w.name, b, got)
			}
		}
	}
}

func TestPutShares(t *testing.T) { // P1.2, P1.3 and P2: new memory, and nothing that is given is changed
	for _, w := range writers() {
		for _, n := range []int{0, 1, 5} {
			given := bytes.Repeat([]byte{0x55}, 64)
			b := given[:n] // with room behind its length, and bytes in it
			want := fmt.Sprintf("%x", b) + w.want
			first, second := w.put(b), w.put(b)
			if got := fmt.Sprintf("%x", first); got != want {
				t.Errorf("%s behind %d bytes with more room: %s", w.name, n, got)
			}
			if bytes.IndexByte(first[n:cap(first)], 0x55) >= 0 {
				t.Errorf("%s behind %d bytes hands out what lies behind them", w.name, n)
			}
			clear(first[:cap(first)])
			if !bytes.Equal(given, bytes.Repeat([]byte{0x55}, 64)) {
				t.Errorf("%s behind %d bytes: they change, or share memory with the answer", w.name, n)
			}
			clear(given)
			if got := fmt.Sprintf("%x", second); got != want {
				t.Errorf("%s behind %d bytes: an answer changes with another, or with what was given: %s", w.name, n, got)
			}
		}
	}
}

func TestPutKeepsNumbers(t *testing.T) { // P2, of a list that is handed over whole
	four, eight := []uint32{1, 2}, []uint64{1, 2}
	word.PutBe32(nil, four...)
	word.PutLe32(nil, four...)
	word.PutBe64(nil, eight...)
	word.PutLe64(nil, eight...)
	word.Aligned(1, eight...)
	word.Add(eight...)
	if !slices.Equal(four, []uint32{1, 2}) || !slices.Equal(eight, []uint64{1, 2}) {
		t.Error("changed:", four, eight)
	}
	long := []uint64{1, 2, 3}
	if got := word.PutBe64(nil, long[:1]...); len(got) != 8 {
		t.Error("what lies behind the list's length is put:", got)
	}
}

func TestCat(t *testing.T) { // P1.3
	for _, c := range []struct {
		parts []string
		want  string
	}{
		{nil, ""},
		{[]string{""}, ""},
		{[]string{"a"}, "a"},
		{[]string{"a", "", "bc"}, "abc"},
		{[]string{"", "bc", "a"}, "bca"},
		{[]string{"a", "a", "a"}, "aaa"},
	} {
		var parts [][]byte
		for _, p := range c.parts {
			parts = append(parts, []byte(p))
		}
		if got := word.Cat(parts...); string(got) != c.want {
			t.Errorf("Cat of %q: %q", c.parts, got)
		}
		for i, p := range parts {
			if string(p) != c.parts[i] {
				t.Errorf("Cat of %q changes part %d: %q", c.parts, i, p)
			}
		}
	}
	if got := word.Cat(nil, nil); len(got) != 0 {
		t.Error("of nil parts:", got)
	}
	same := []byte("xy")
	if got := word.Cat(same, same[:1], same[1:]); string(got) != "xyxy" {
		t.Errorf("parts that share memory: %q", got)
	}
}

func TestDownUp(t *testing.T) { // P1.4
	const top = math.MaxUint64
	for _, c := range []struct {
		n, a, down, up uint64
		is             bool
	}{
		{0, 0, 0, 0, false},
		{7, 0, 0, 0, false},
		{top, 0, 0, 0, false},
		{0, 1, 0, 0, true},
		{0, 4096, 0, 0, true},
		{0, top, 0, 0, true},
		{1, 4096, 0, 4096, true},
		{4095, 4096, 0, 4096, true},
		{4096, 4096, 4096, 4096, true},
		{4097, 4096, 4096, 8192, true},
		{10, 3, 9, 12, true},
		{12, 3, 12, 12, true},
		{5, 100, 0, 100, true},
		{top, 1, top, top, true},
		{top, 2, top - 1, 0, false},
		{top, 3, top, top, true},
		{top, 4096, top - 4095, 0, false},
		{top - 4095, 4096, top - 4095, top - 4095, true},
		{top - 4094, 4096, top - 4095, 0, false},
		{top, top, top, top, true},
		{1, top, 0, top, true},
		{top, top - 1, top - 1, 0, false},
		{1, 1 << 63, 0, 1 << 63, true},
		{1 << 63, 1 << 63, 1 << 63, 1 << 63, true},
		{1<<63 + 1, 1 << 63, 1 << 63, 0, false},
	} {
		if got := word.Down(c.n, c.a); got != c.down {
			t.Errorf("Down(%d, %d): %d; want %d", c.n, c.a, got, c.down)
		}
		if got, is := word.Up(c.n, c.a); got != c.up || is != c.is {
			t.Errorf("Up(%d, %d): %d, %v; want %d, %v", c.n, c.a, got, is, c.up, c.is)
		}
	}
}

func TestMultiples(t *testing.T) { // P1.4, against numbers that have no greatest one
	for _, n := range numbers() {
		for _, a := range numbers() {
			if a == 0 {
				continue
			}
			multiple, rest := new(big.Int), new(big.Int)
			multiple.DivMod(new(big.Int).SetUint64(n), new(big.Int).SetUint64(a), rest)
			multiple.Mul(multiple, new(big.Int).SetUint64(a))
			if got := word.Down(n, a); got != multiple.Uint64() {
				t.Fatalf("Down(%d, %d): %d", n, a, got)
			}
			even := rest.Sign() == 0
			if !even {
				multiple.Add(multiple, new(big.Int).SetUint64(a))
			}
			want := uint64(0)
			if multiple.IsUint64() {
				want = multiple.Uint64()
			}
			if got, is := word.Up(n, a); got != want || is != multiple.IsUint64() {
				t.Fatalf("Up(%d, %d): %d, %v", n, a, got, is)
			}
			if word.Aligned(a, n) != even {
				t.Fatalf("Aligned(%d, %d): %v", a, n, !even)
			}
		}
	}
}

func TestAligned(t *testing.T) { // P1.4
	for _, c := range []struct {
		a    uint64
		l    []uint64
		want bool
	}{
		{0, nil, false},
		{0, []uint64{0}, false},
		{0, []uint64{0, 4}, false},
		{1, nil, true},
		{4, []uint64{}, true},
		{4, []uint64{0}, true},
		{4, []uint64{8, 12, 0}, true},
		{4, []uint64{7, 8, 12}, false},
		{4, []uint64{8, 7, 12}, false},
		{4, []uint64{8, 12, 7}, false},
		{4, []uint64{2}, false},
		{12, []uint64{36}, true},
		{12, []uint64{16}, false},
		{math.MaxUint64, []uint64{math.MaxUint64, 0}, true},
		{math.MaxUint64, []uint64{math.MaxUint64 - 1}, false},
		{1, []uint64{math.MaxUint64, 1}, true},
	} {
		if got := word.Aligned(c.a, c.l...); got != c.want {
			t.Errorf("Aligned(%d, %v): %v", c.a, c.l, got)
		}
	}
}

func TestAdd(t *testing.T) { // P1.5
	const top = math.MaxUint64
	for _, c := range []struct {
		l    []uint64
		want uint64
		is   bool
	}{
		{nil, 0, true},
		{[]uint64{}, 0, true},
		{[]uint64{0}, 0, true},
		{[]uint64{7}, 7, true},
		{[]uint64{1, 2, 3}, 6, true},
		{[]uint64{top}, top, true},
		{[]uint64{top, 0}, top, true},
		{[]uint64{0, top}, top, true},
		{[]uint64{1 << 63, 1<<63 - 1}, top, true},
		{[]uint64{top, 1}, 0, false},
		{[]uint64{1, top}, 0, false},
		{[]uint64{top, 1, 5}, 0, false},
		{[]uint64{1 << 63, 1 << 63}, 0, false},
		{[]uint64{1 << 63, 1 << 63, 1 << 63, 1 << 63}, 0, false},
		{[]uint64{1 << 63, 1 << 63, 7}, 0, false},
		{[]uint64{top, top}, 0, false},
		{[]uint64{top, top, 2}, 0, false},
	} {
		if got, is := word.Add(c.l...); got != c.want || is != c.is {
			t.Errorf("Add(%v): %d, %v; want %d, %v", c.l, got, is, c.want, c.is)
		}
	}
}

func TestHex(t *testing.T) { // P1.6
	for n, want := range map[uint64]string{
		0: "0", 1: "1", 9: "9", 10: "a", 15: "f", 16: "10", 160: "a0", 255: "ff", 256: "100",
		0xdeadbeef: "deadbeef", 1 << 40: "10000000000", 1 << 63: "8000000000000000", math.MaxUint64: "ffffffffffffffff",
	} {
		if got := word.Hex(n); got != want {
			t.Errorf("Hex(%d): %q; want %q", n, got, want)
		}
	}
	for _, n := range numbers() {
		if got := word.Hex(n); got != fmt.Sprintf("%x", n) {
			t.Errorf("Hex(%d): %q", n, got)
		}
	}
}

// thereAndBack reads each number where it was put, behind a front of any length.
func thereAndBack[N uint32 | uint64](t *testing.T, name string, size int, put func([]byte, ...N) []byte, read func([]byte, int) (N, bool)) {
	t.Helper()
	var l []N
	for _, n := range numbers() {
		l = append(l, N(n))
	}
	for front := range 10 {
		b := put(make([]byte, front), l...)
		if len(b) != front+size*len(l) {
			t.Fatalf("%s: %d bytes", name, len(b))
		}
		b = append(b, 0xff, 0xff, 0xff)
		for i, want := range l {
			if n, is := read(b, front+size*i); n != want || !is {
				t.Fatalf("%s: %#x behind %d bytes is read as %#x, %v", name, want, front, n, is)
			}
		}
	}
}

func TestThereAndBack(t *testing.T) { // P1.7
	thereAndBack(t, "Be32", 4, word.PutBe32, word.Be32)
	thereAndBack(t, "Be64", 8, word.PutBe64, word.Be64)
	thereAndBack(t, "Le32", 4, word.PutLe32, word.Le32)
	thereAndBack(t, "Le64", 8, word.PutLe64, word.Le64)
}

func TestExamples(t *testing.T) { // those of the chapter
	b := word.PutBe32(nil, 1, 258)
	if !bytes.Equal(b, []byte{0, 0, 0, 1, 0, 0, 1, 2}) {
		t.Error("PutBe32:", b)
	}
	if n, is := word.Le32(b, 4); n != 0x02010000 || !is {
		t.Error("Le32:", n, is)
	}
	if n, is := word.Up(4097, 4096); n != 8192 || !is {
		t.Error("Up:", n, is)
	}
	if n, is := word.Up(math.MaxUint64, 4096); n != 0 || is {
		t.Error("Up:", n, is)
	}
	if s := word.Hex(255); s != "ff" {
		t.Error("Hex:", s)
	}
}
