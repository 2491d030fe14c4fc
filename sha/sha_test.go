package sha_test

import (
	"bytes"
	"crypto/sha256"
	"encoding"
	"encoding/binary"
	"encoding/hex"
	"math"
	"math/big"
	"slices"
	"strings"
	"testing"

	"portreeve/api"
	"portreeve/sha"
)

// some are n bytes of which no two near ones are the same; another seed has others.
func some(n, seed int) []byte {
	b := make([]byte, n)
	x := uint32(seed)*2654435761 + 12345
	for i := range b {
		x = x*1664525 + 1013904223
		b[i] = byte(x >> 24)
	}
	return b
}

func node(text string) api.Node {
	b, err := hex.DecodeString(strings.ReplaceAll(text, " ", ""))
	if err != nil || len(b) != 32 {
		panic(text)
	}
	return api.Node(b)
}

// primes are told by a sieve.
func primes() []int {
	var l []int
	var not [312]bool
	for p := 2; p < len(not); p++ {
		if not[p] {
			continue
		}
		l = append(l, p)
		for m := 2 * p; m < len(not); m += p {
			not[m] = true
		}
	}
	return l
}

// outside are numbers to either side of from and to, and the edges of int.
func outside(from, to int) []int {
	l := []int{math.MinInt, math.MinInt + 1, math.MinInt32, -311, -2, math.MaxInt32, math.MaxInt - 1, math.MaxInt}
	for i := range 1000 {
		l = append(l, from-1-i, to+1+i)
	}
	return l
}

func TestPrime(t *testing.T) { // P3.1
	want := primes()
	if len(want) != 64 || want[0] != 2 || want[63] != 311 {
		t.Fatal("the sieve:", want)
	}
	for i, p := range want {
		if got := sha.Prime(i); got != p {
			t.Errorf("Prime(%d) = %d, want %d", i, got, p)
		}
	}
	for _, i := range outside(0, 63) {
		if got := sha.Prime(i); got != 0 {
			t.Errorf("Prime(%d) = %d, want 0", i, got)
		}
	}
}

// fraction is that of the root r times 2^32, after r is held against what it must be.
func fraction(t *testing.T, p, n int64, r uint64) uint32 {
	t.Helper()
	power := func(r uint64) *big.Int {
		return new(big.Int).Exp(new(big.Int).SetUint64(r), big.NewInt(n), nil)
	}
	whole := new(big.Int).Lsh(big.NewInt(p), uint(32*n))
	if power(r).Cmp(whole) > 0 || power(r+1).Cmp(whole) <= 0 {
		t.Fatalf("%d is no root of %d times 2^%d", r, p, 32*n)
	}
	return uint32(r)
}

// near is the whole number below a root told by floats, a few off at most.
func near(p, n int64) uint64 {
	r := new(big.Int).SetUint64(uint64(math.Pow(float64(p), 1/float64(n))*(1<<32)) + 64)
	whole := new(big.Int).Lsh(big.NewInt(p), uint(32*n))
	for new(big.Int).Exp(r, big.NewInt(n), nil).Cmp(whole) > 0 {
		r.Sub(r, big.NewInt(1))
	}
	return r.Uint64()
}

func TestRoots(t *testing.T) { // P3.1
	for p := int64(1); p <= 311; p++ {
		if got, want := sha.Root2(int(p)), fraction(t, p, 2, near(p, 2)); got != want {
			t.Errorf("Root2(%d) = %#x, want %#x", p, got, want)
		}
		if got, want := sha.Root3(int(p)), fraction(t, p, 3, near(p, 3)); got != want {
			t.Errorf("Root3(%d) = %#x, want %#x", p, got, want)
		}
	}
	for _, p := range outside(1, 311) {
		if a, b := sha.Root2(p), sha.Root3(p); a != 0 || b != 0 {
			t.Errorf("Root2, Root3 of %d: %#x, %#x", p, a, b)
		}
	}
}

func TestWholeRoots(t *testing.T) { // P3.1: those without a fraction
	for r := 1; r*r <= 311; r++ {
		if got := sha.Root2(r * r); got != 0 {
			t.Errorf("Root2(%d) = %#x", r*r, got)
		}
	}
	for r := 1; r*r*r <= 311; r++ {
		if got := sha.Root3(r * r * r); got != 0 {
			t.Errorf("Root3(%d) = %#x", r*r*r, got)
		}
	}
}

func TestTables(t *testing.T) { // P3.1
	first, table := sha.Init(), sha.Table()
	for i, p := range primes() {
		if want := sha.Root3(p); table[i] != want {
			t.Errorf("Table()[%d] = %#x, want %#x", i, table[i], want)
		}
		if i < 8 && first[i] != sha.Root2(p) {
			t.Errorf("Init()[%d] = %#x, want %#x", i, first[i], sha.Root2(p))
		}
	}
	// As FIPS 180-4 prints them.
	if first[0] != 0x6a09e667 || first[7] != 0x5be0cd19 || table[0] != 0x428a2f98 || table[63] != 0xc67178f2 {
		t.Errorf("%x, %x", first, table)
	}
	clear(first[:])
	clear(table[:])
	if sha.Init() == first || sha.Table() == table {
		t.Error("what is answered is what is kept") // P2
	}
}

// libraryBlock is the library's compression: its hash can be given any words and asked for them.
func libraryBlock(t *testing.T, h [8]uint32, b [64]byte) [8]uint32 {
	t.Helper()
	kept := []byte("sha\x03")
	for _, n := range h {
		kept = binary.BigEndian.AppendUint32(kept, n)
	}
	kept = append(kept, make([]byte, 64+8)...)
	d := sha256.New()
	if err := d.(encoding.BinaryUnmarshaler).UnmarshalBinary(kept); err != nil {
		t.Fatal(err)
	}
	d.Write(b[:])
	kept, err := d.(encoding.BinaryMarshaler).MarshalBinary()
	if err != nil {
		t.Fatal(err)
	}
	for i := range h {
		h[i] = binary.BigEndian.Uint32(kept[4+4*i:])
	}
	return h
}

func TestBlock(t *testing.T) { // P3.2
	ones := [64]byte(bytes.Repeat([]byte{0xff}, 64))
	top := [8]uint32{math.MaxUint32, math.MaxUint32, math.MaxUint32, math.MaxUint32, math.MaxUint32, math.MaxUint32, math.MaxUint32, math.MaxUint32}
	words := [][8]uint32{{}, top, sha.Init()}
	blocks := [][64]byte{{}, ones}
	for i := range 64 {
		var b [64]byte
		b[i] = 0x80 >> (i % 8)
		blocks = append(blocks, b, [64]byte(some(64, i)))
		var h [8]uint32
		h[i%8] = 1 << (i / 2)
		words = append(words, h)
		for k := range h {
			h[k] = binary.BigEndian.Uint32(some(32, 1000+i)[4*k:])
		}
		words = append(words, h)
	}
	for _, h := range words {
		for _, b := range blocks {
			if got, want := sha.Block(h, b), libraryBlock(t, h, b); got != want {
				t.Fatalf("Block(%x, %x) = %x, want %x", h, b, got, want)
			}
		}
	}
}

func TestBlockExample(t *testing.T) { // P3.2: `abc`, padded by hand, as FIPS 180-4 has it
	b := [64]byte{'a', 'b', 'c', 0x80, 63: 24}
	h := sha.Init()
	want := [8]uint32{0xba7816bf, 0x8f01cfea, 0x414140de, 0x5dae2223, 0xb00361a3, 0x96177a9c, 0xb410ff61, 0xf20015ad}
	if got := sha.Block(h, b); got != want {
		t.Errorf("%x, want %x", got, want)
	}
	if h != sha.Init() || b != [64]byte{'a', 'b', 'c', 0x80, 63: 24} {
		t.Error("changed:", h, b)
	}
}

func TestPad(t *testing.T) { // P3.3
	l := []uint64{1<<29 - 1, 1 << 29, 1<<32 + 55, 1<<61 - 1, 1 << 61, 1<<61 + 1, 1<<61 + 56, 1<<63 + 63}
	for n := range uint64(400) {
		l = append(l, n, math.MaxUint64-n)
	}
	for _, n := range l {
		got := sha.Pad(n)
		if len(got) < 9 || len(got) > 72 || (n%64+uint64(len(got)))%64 != 0 || got[0] != 0x80 {
			t.Errorf("Pad(%d): %x", n, got)
			continue
		}
		behind := len(got) - 8
		if slices.ContainsFunc(got[1:behind], func(b byte) bool { return b != 0 }) {
			t.Errorf("Pad(%d): %x", n, got)
		}
		eight := new(big.Int).Mul(big.NewInt(8), new(big.Int).SetUint64(n))
		eight.Mod(eight, new(big.Int).Lsh(big.NewInt(1), 64))
		if want := eight.FillBytes(make([]byte, 8)); !bytes.Equal(got[behind:], want) {
			t.Errorf("Pad(%d) ends with %x, want %x", n, got[behind:], want)
		}
	}
	for n, size := range map[uint64]int{0: 64, 1: 63, 54: 10, 55: 9, 56: 72, 57: 71, 63: 65, 64: 64, 119: 9, 120: 72, math.MaxUint64: 65} {
		if got := sha.Pad(n); len(got) != size {
			t.Errorf("Pad(%d) has %d bytes, want %d", n, len(got), size)
		}
	}
}

func TestPadShares(t *testing.T) { // P2
	a := sha.Pad(5)
	want := slices.Clone(a)
	for i := range a {
		a[i] = 0xee
	}
	if got := sha.Pad(5); !bytes.Equal(got, want) {
		t.Errorf("an answer changes with another: %x", got)
	}
}

func TestSumExamples(t *testing.T) { // P3.4
	for _, c := range []struct {
		text string
		want api.Node
	}{
		{"", node("e3b0c442 98fc1c14 9afbf4c8 996fb924 27ae41e4 649b934c a495991b 7852b855")},
		{"abc", node("ba7816bf 8f01cfea 414140de 5dae2223 b00361a3 96177a9c b410ff61 f20015ad")},
		{"abcdbcdecdefdefgefghfghighijhijkijkljklmklmnlmnomnopnopq", node("248d6a61 d20638b8 e5c02693 0c3e6039 a33ce459 64ff2167 f6ecedd4 19db06c1")},
		{strings.Repeat("a", 1000000), node("cdc76e5c 9914fb92 81a1c7e2 84d73e67 f1809a48 a497200e 046d39cc c7112cd0")},
	} {
		if got := sha.Sum([]byte(c.text)); got != c.want {
			t.Errorf("Sum of %d bytes: %x, want %x", len(c.text), got, c.want)
		}
	}
}

func TestSumLengths(t *testing.T) { // P3.4, with all lengths at which the padding takes one block or two
	for n := range 700 {
		b := some(n, n)
		if got, want := sha.Sum(b), sha256.Sum256(b); got != want {
			t.Errorf("Sum of %d bytes: %x, want %x", n, got, want)
		}
	}
}

func TestSumParts(t *testing.T) { // P3.4
	none := sha256.Sum256(nil)
	for _, parts := range [][][]byte{nil, {}, {nil}, {{}}, {nil, {}, nil}} {
		if got := sha.Sum(parts...); got != none {
			t.Errorf("Sum of %v: %x", parts, got)
		}
	}
	abc := sha256.Sum256([]byte("abc"))
	a, bc, c := []byte("a"), []byte("bc"), []byte("c")
	for _, parts := range [][][]byte{{a, bc}, {nil, a, {}, bc, nil}, {a, bc[:1], c}, {[]byte("abc"), bc[:0]}} {
		if got := sha.Sum(parts...); got != abc {
			t.Errorf("Sum of %q: %x", parts, got)
		}
	}
	if sha.Sum(bc, a) == abc {
		t.Error("the parts' order makes no difference")
	}
	same := some(50, 1)
	if got, want := sha.Sum(same, same, same[:7]), sha256.Sum256(slices.Concat(same, same, same[:7])); got != want {
		t.Errorf("parts that share memory: %x", got)
	}
}

// guarded are n bytes with room behind them, all of it known, so that a change anywhere is seen.
func guarded(n int) (whole, b []byte) {
	whole = bytes.Repeat([]byte{0x55}, n+200)
	return whole, whole[:n]
}

func TestSumGiven(t *testing.T) { // P2, P3
	for _, n := range []int{0, 1, 55, 56, 63, 64, 65, 128, 200} {
		whole, b := guarded(n)
		had, want := slices.Clone(whole), sha256.Sum256(b)
		parts := [][]byte{b, nil, []byte("behind the length")}
		h := sha.New()
		h.Write(b)
		if got := sha.Sum(parts[:2]...); got != want || h.Sum() != want {
			t.Errorf("%d bytes with more behind them: %x, %x", n, got, h.Sum())
		}
		if !bytes.Equal(whole, had) || len(parts[0]) != n || parts[1] != nil || string(parts[2]) != "behind the length" {
			t.Errorf("%d bytes, or what lies behind them, are changed", n)
		}
	}
}

func TestHash(t *testing.T) { // P3.5
	h := sha.New()
	var all []byte
	check := func() {
		t.Helper()
		want := sha256.Sum256(all)
		for range 2 { // a sum leaves the hash as it is
			if h.Len() != uint64(len(all)) || h.Sum() != want {
				t.Fatalf("behind %d bytes: Len %d, Sum %x, want %x", len(all), h.Len(), h.Sum(), want)
			}
		}
	}
	check()
	for i, n := range []int{0, 3, 0, 52, 1, 7, 1, 0, 64, 63, 1, 65, 128, 127, 129, 1000, 0, 55, 9} {
		b := some(n, i)
		h.Write(b)
		all = append(all, b...)
		for k := range b { // what was written isn't kept
			b[k] ^= 0xff
		}
		check()
	}
	h.Write(nil)
	h.Write([]byte{})
	check()
}

func TestHashesApart(t *testing.T) { // P3.5: no two made by New go on together
	a, b := sha.New(), sha.New()
	a.Write([]byte("abc"))
	if b.Len() != 0 || b.Sum() != sha256.Sum256(nil) || a.Len() != 3 {
		t.Errorf("%d, %x, %d", b.Len(), b.Sum(), a.Len())
	}
	if c := sha.New(); c.Len() != 0 || c.Sum() != sha256.Sum256(nil) {
		t.Errorf("a new one: %d, %x", c.Len(), c.Sum())
	}
}

func TestClone(t *testing.T) { // P3.5
	for _, n := range []int{0, 1, 40, 55, 56, 63, 64, 65, 100, 128, 300} {
		front, one, two := some(n, 1), some(90, 2), some(90, 3)
		h := sha.New()
		h.Write(front)
		c := h.Clone()
		if c == nil || c == h || c.Len() != uint64(n) || c.Sum() != h.Sum() {
			t.Fatalf("behind %d bytes: a clone unlike its hash", n)
		}
		for i := range one { // by turns, byte by byte: neither writes into the other
			h.Write(one[i : i+1])
			c.Write(two[i : i+1])
		}
		d := c.Clone()
		c.Write([]byte("more"))
		for _, x := range []struct {
			h   *sha.Hash
			all []byte
		}{
			{h, slices.Concat(front, one)},
			{c, slices.Concat(front, two, []byte("more"))},
			{d, slices.Concat(front, two)},
		} {
			if x.h.Len() != uint64(len(x.all)) || x.h.Sum() != sha256.Sum256(x.all) {
				t.Errorf("behind %d bytes: Len %d, Sum %x", n, x.h.Len(), x.h.Sum())
			}
		}
	}
}

func TestNobodyMade(t *testing.T) { // P3.5, P1
	var zero sha.Hash
	for _, h := range []*sha.Hash{nil, new(sha.Hash), &zero, {}} {
		for _, b := range [][]byte{nil, {}, []byte("abc"), some(64, 1), some(300, 2)} {
			h.Write(b)
			if h.Len() != 0 || h.Sum() != (api.Node{}) || h.Clone() != nil {
				t.Errorf("Len %d, Sum %x, Clone %v", h.Len(), h.Sum(), h.Clone())
			}
		}
	}
}

func TestTwoPieces(t *testing.T) { // P3.6: each pair of cuts there is
	for _, n := range []int{3, 64, 119, 120, 150} {
		b := some(n, n)
		want := sha256.Sum256(b)
		for i := range n + 1 {
			for j := i; j <= n; j++ {
				h := sha.New()
				h.Write(b[:i])
				h.Write(b[i:j])
				h.Write(b[j:])
				if got := h.Sum(); got != want || sha.Sum(b[:i], b[i:j], b[j:]) != want {
					t.Fatalf("%d bytes cut at %d and %d: %x, want %x", n, i, j, got, want)
				}
			}
		}
	}
}

func TestPieces(t *testing.T) { // P3.6: pieces of one size
	b := some(5000, 9)
	want := sha256.Sum256(b)
	for size := 1; size <= 200; size++ {
		h := sha.New()
		var parts [][]byte
		for p := range slices.Chunk(b, size) {
			h.Write(p)
			parts = append(parts, p)
		}
		if got := h.Sum(); got != want || sha.Sum(parts...) != want {
			t.Errorf("pieces of %d bytes: %x, want %x", size, got, want)
		}
	}
}
