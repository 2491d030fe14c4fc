package img_test

import (
	"bytes"
	"encoding/binary"
	"encoding/hex"
	"fmt"
	"math"
	"math/rand"
	"slices"
	"strings"
	"testing"

	"portreeve/api"
	"portreeve/img"
)

const (
	headSize = 64
	signs    = "abcdefghijklmnopqrstuvwxyz0123456789-"
)

// counting are 32 bytes, from one on.
func counting(from byte) (n api.Node) {
	for i := range n {
		n[i] = from + byte(i)
	}
	return n
}

// full has no two bytes that are the same, but for those behind its name; fullBytes are its bytes, laid by hand.
func full() api.Header {
	return api.Header{Version: 0x81020304, Size: 0x95161718, Name: "linux-07", Digest: counting(0xa0)}
}

func fullBytes() []byte {
	return bytesOf("42494d47 81020304 95161718 00000000" +
		"6c696e75782d3037 0000000000000000" +
		"a0a1a2a3a4a5a6a7 a8a9aaabacadaeaf b0b1b2b3b4b5b6b7 b8b9babbbcbdbebf")
}

// bytesOf are those of a text in base 16.
func bytesOf(text string) []byte {
	b, err := hex.DecodeString(strings.ReplaceAll(text, " ", ""))
	if err != nil {
		panic(err)
	}
	return b
}

// with is b with other bytes at a place.
func with(b []byte, at int, other []byte) []byte {
	b = slices.Clone(b)
	copy(b[at:at+len(other)], other)
	return b
}

// filled are the 16 bytes of a name.
func filled(name string) []byte { return append([]byte(name), make([]byte, 16-len(name))...) }

// modelName is P14.2.
func modelName(s string) bool {
	for i := range len(s) {
		if !strings.Contains(signs, s[i:i+1]) {
			return false
		}
	}
	return len(s) >= 1 && len(s) <= 16
}

// modelPut is P15.1, of a header that may be.
func modelPut(h api.Header) []byte {
	be := binary.BigEndian
	b := be.AppendUint32(nil, 0x42494d47)
	b = be.AppendUint32(be.AppendUint32(b, h.Version), h.Size)
	b = append(append(b, 0, 0, 0, 0), filled(h.Name)...)
	return append(b, h.Digest[:]...)
}

// modelOf asks one thing of P15.1 behind the other.
func modelOf(b []byte) (api.Header, api.Errno) {
	if len(b) != headSize || string(b[:4]) != "BIMG" || string(b[12:16]) != "\x00\x00\x00\x00" {
		return api.Header{}, api.ErrImage
	}
	name, rest, _ := strings.Cut(string(b[16:32]), "\x00")
	if !modelName(name) || strings.Trim(rest, "\x00") != "" {
		return api.Header{}, api.ErrImage
	}
	be := binary.BigEndian
	return api.Header{Version: be.Uint32(b[4:]), Size: be.Uint32(b[8:]), Name: name, Digest: api.Node(b[32:])}, api.OK
}

func checkBytes(t *testing.T, what string, got, want []byte) {
	t.Helper()
	if !bytes.Equal(got, want) {
		t.Errorf("%s:\n%x, want\n%x", what, got, want)
	}
}

// checkPut asks that h is laid as want, and comes back of it.
func checkPut(t *testing.T, what string, h api.Header, want []byte) {
	t.Helper()
	b, e := img.Put(h)
	if e != api.OK {
		t.Errorf("%s: Put: error %d", what, e)
	}
	checkBytes(t, what+": Put", b, want)
	if back, e := img.Of(b); back != h || e != api.OK {
		t.Errorf("%s: Of of Put: %+v, error %d, want %+v", what, back, e, h)
	}
}

func checkNotPut(t *testing.T, what string, h api.Header) {
	t.Helper()
	if b, e := img.Put(h); len(b) != 0 || e != api.ErrImage {
		t.Errorf("%s: Put: %x, error %d", what, b, e)
	}
}

// checkOf holds Of against the model, and what is taken against what Put writes of it.
func checkOf(t *testing.T, what string, b []byte) {
	t.Helper()
	kept := slices.Clone(b)
	want, wantErr := modelOf(b)
	h, e := img.Of(b)
	if h != want || e != wantErr {
		t.Fatalf("%s: Of(%x) = %+v, error %d, want %+v, %d", what, b, h, e, want, wantErr)
	}
	if !bytes.Equal(b, kept) {
		t.Fatalf("%s: Of changes what it is given to %x", what, b)
	}
	if e == api.OK {
		again, f := img.Put(h)
		if f != api.OK || !bytes.Equal(again, b) {
			t.Fatalf("%s: what Of takes Put writes as %x, error %d, want %x", what, again, f, b)
		}
	}
}

// checkNone asks that b is no header, and that the one with the error is the zero one.
func checkNone(t *testing.T, what string, b []byte) {
	t.Helper()
	if h, e := img.Of(b); h != (api.Header{}) || e != api.ErrImage {
		t.Errorf("%s: Of(%x) = %+v, error %d", what, b, h, e)
	}
}

// wrongNames are none.
func wrongNames() []string {
	l := []string{"", "a234567890123456-", "a2345678901234567", "a234567890123456\x00", strings.Repeat("a", 17), strings.Repeat("b", 32), strings.Repeat("c", 65536+4),
		"\x00", "\x00a", "a\x00", "a\x00b", "linux\x00", "Linux", "linuX", "a_b", "a b", " a", "a ", "a.", "a\n", "é", "aé", "éa", "éééééééé", "漢", "\xff", "a\x80",
		"abcdefghijklmnoP", "Abcdefghijklmnop", "abcdefg ijklmnop", "0123456789abcde\x00", strings.Repeat("\x00", 16), strings.Repeat("\x00", 17)}
	for i := range 256 {
		if !strings.ContainsRune(signs, rune(i)) { // those just beside: 0x60 and {, / and :, a comma and a full stop
			l = append(l, string([]byte{byte(i)}), string([]byte{'a', byte(i), 'b'}), string([]byte{'a', 'b', byte(i)}), strings.Repeat("x", 15)+string([]byte{byte(i)}))
		}
	}
	return l
}

func names() []string {
	l := []string{"a", "z", "0", "9", "-", "--", "a-b", "-a", "a-", "linux", "m4n0", "0123456789abcdef", "ghijklmnopqrstuv", "wxyz-wxyz-wxyz-w", "----------------", "zzzzzzzzzzzzzzz"}
	for _, r := range signs {
		l = append(l, string(r), "x"+string(r)+"y", "xy"+string(r), strings.Repeat("k", 15)+string(r))
	}
	for n := range 16 {
		l = append(l, strings.Repeat("k", n+1))
	}
	return l
}

func numbers() []uint32 {
	l := []uint32{0, 1, 2, 255, 256, 65535, 65536, 0x01020304, 0x42494d47, math.MaxInt32, 1 << 31, math.MaxUint32 - 1, math.MaxUint32}
	for i := range 32 {
		l = append(l, 1<<i, ^uint32(1<<i))
	}
	return l
}

func nodes() []api.Node {
	return []api.Node{{}, {0: 1}, {31: 1}, {0: 0x80}, {15: 0xff}, counting(1), counting(0xf0), api.Node(bytes.Repeat([]byte{0xff}, 32))}
}

func TestExample(t *testing.T) { // the chapter's
	checkNone(t, "63 bytes", make([]byte, 63))
	checkNone(t, "63 bytes of a header", fullBytes()[:63])
}

func TestPut(t *testing.T) { // P15.1: byte by byte
	checkPut(t, "full", full(), fullBytes())
	checkPut(t, "little", api.Header{Name: "a"}, bytesOf("42494d47 00000000 00000000 00000000 61"+strings.Repeat("00", 47)))
	checkPut(t, "of all ones", api.Header{Version: math.MaxUint32, Size: math.MaxUint32, Name: "zzzzzzzzzzzzzzzz", Digest: api.Node(bytes.Repeat([]byte{0xff}, 32))},
		bytesOf("42494d47 ffffffff ffffffff 00000000"+strings.Repeat("7a", 16)+strings.Repeat("ff", 32)))
}

func TestPutOfParts(t *testing.T) { // P15.1: each one alone, at its place
	for _, n := range numbers() {
		h, x := full(), binary.BigEndian.AppendUint32(nil, n)
		h.Version = n
		checkPut(t, fmt.Sprint("Version ", n), h, with(fullBytes(), 4, x))
		h = full()
		h.Size = n
		checkPut(t, fmt.Sprint("Size ", n), h, with(fullBytes(), 8, x))
	}
	for _, n := range nodes() {
		h := full()
		h.Digest = n
		checkPut(t, fmt.Sprintf("Digest %x", n), h, with(fullBytes(), 32, n[:]))
	}
}

func TestPutOfNames(t *testing.T) { // P15.1
	for _, s := range names() {
		h := full()
		h.Name = s
		checkPut(t, s, h, with(fullBytes(), 16, filled(s)))
		checkPut(t, s, api.Header{Name: s}, modelPut(api.Header{Name: s}))
	}
	for _, s := range wrongNames() {
		h := full()
		h.Name = s
		checkNotPut(t, fmt.Sprintf("%q", s), h)
		checkNotPut(t, fmt.Sprintf("%q", s), api.Header{Name: s})
	}
	checkNotPut(t, "the zero header", api.Header{})
}

func TestOfLengths(t *testing.T) { // P15.1: 64 bytes alone
	checkNone(t, "nil", nil)
	checkNone(t, "no bytes", []byte{})
	long := append(fullBytes(), fullBytes()...)
	for n := range len(long) + 1 {
		checkOf(t, fmt.Sprint(n, " bytes"), slices.Clone(long[:n]))
		checkOf(t, fmt.Sprint(n, " bytes, with more behind their length"), long[:n])
		checkOf(t, fmt.Sprint(n, " bytes 0"), make([]byte, n))
		if n > 0 {
			checkOf(t, fmt.Sprint(n, " bytes, the first one being missing"), long[1:n])
		}
	}
	if h, e := img.Of(long[:64]); h != full() || e != api.OK {
		t.Errorf("64 bytes: %+v, error %d", h, e)
	}
	checkNone(t, "63 bytes with the last one behind their length", long[:63])
	checkNone(t, "65 bytes", append(fullBytes(), 0))
	checkNone(t, "a MiB", append(fullBytes(), make([]byte, 1<<20)...))
}

func TestOfEachByte(t *testing.T) { // P15.1: with every value
	short := full()
	short.Name = "x"
	long := full()
	long.Name = "0123456789abcde-"
	for _, whole := range [][]byte{fullBytes(), modelPut(short), modelPut(long), modelPut(api.Header{Name: "a"})} {
		for at := range whole {
			for x := range 256 {
				checkOf(t, fmt.Sprintf("byte %d: %#x", at, x), with(whole, at, []byte{byte(x)}))
			}
		}
	}
	for _, at := range []int{0, 1, 2, 3, 12, 13, 14, 15, 16} {
		for bit := range 8 {
			b := fullBytes()
			b[at] ^= 1 << bit
			if at == 16 { // where another bit may make another sign
				b[at] = byte(bit)
			}
			checkNone(t, fmt.Sprint("byte ", at), b)
		}
	}
	for _, at := range []int{4, 5, 6, 7, 8, 9, 10, 11, 32, 33, 62, 63} {
		b := fullBytes()
		b[at]++
		if h, e := img.Of(b); e != api.OK || h == full() {
			t.Errorf("byte %d: %+v, error %d", at, h, e)
		}
	}
}

func TestOfNames(t *testing.T) { // P15.1
	for _, s := range names() {
		h := full()
		h.Name = s
		if back, e := img.Of(with(fullBytes(), 16, filled(s))); back != h || e != api.OK {
			t.Errorf("%q: %+v, error %d", s, back, e)
		}
	}
	for _, s := range []string{
		strings.Repeat("\x00", 16), "\x00inux-0\x00\x00\x00\x00\x00\x00\x00\x00\x00", "\x00bcdefghijklmnop", strings.Repeat("\x00", 15) + "a",
		"a" + strings.Repeat("\x00", 14) + "a", "a" + strings.Repeat("\x00", 14) + "\x01", "a\x00a" + strings.Repeat("\x00", 13), "abcdefghijklmn\x00p",
		"linux" + strings.Repeat("\x00", 5) + "\xff" + strings.Repeat("\x00", 5), "a" + strings.Repeat(" ", 15), strings.Repeat("A", 16), "abcdefghijklmno\xff",
	} {
		checkNone(t, fmt.Sprintf("%q", s), with(fullBytes(), 16, []byte(s)))
	}
	for _, s := range wrongNames() {
		if len(s) <= 16 && strings.Trim(s, "\x00") == s { // those with a 0 at their end may be another name's bytes
			checkNone(t, fmt.Sprintf("%q", s), with(fullBytes(), 16, filled(s)))
		}
	}
	for at := range 16 { // a 0 at each place, and at all behind it but one
		b := with(fullBytes(), 16, []byte("abcdefghijklmnop"))
		b[16+at] = 0
		checkOf(t, fmt.Sprint("a 0 at ", at), b)
		clear(b[16+at : 32])
		checkOf(t, fmt.Sprint("noughts from ", at), b)
		for other := at + 1; other < 16; other++ {
			for _, x := range []byte{1, 0x80, 0xff, 'q'} {
				checkNone(t, fmt.Sprint("noughts from ", at, ", but at ", other), with(b, 16+other, []byte{x}))
			}
		}
	}
}

// TestOfAnything spoils headers here and there (P15.1).
func TestOfAnything(t *testing.T) {
	r := rand.New(rand.NewSource(15))
	for i := range 50000 {
		b := modelPut(anyHeader(r, r.Uint32()))
		for range r.Intn(3) {
			b[r.Intn(len(b))] = [...]byte{0, 0xff, 'a', byte(r.Uint32())}[r.Intn(4)]
		}
		if r.Intn(8) == 0 {
			at := r.Intn(headSize)
			b = [...][]byte{b[:at], b[at:], append(b[:at:at], b[at+1:]...), slices.Insert(b, at, 0)}[r.Intn(4)]
		}
		checkOf(t, fmt.Sprint("bytes ", i), b)
	}
}

func anyHeader(r *rand.Rand, size uint32) api.Header {
	h := api.Header{Version: r.Uint32(), Size: size}
	for range 1 + r.Intn(16) {
		h.Name += string(signs[r.Intn(len(signs))])
	}
	r.Read(h.Digest[:])
	return h
}

func TestPutSharesNothing(t *testing.T) { // P2
	b, _ := img.Put(full())
	other, _ := img.Put(full())
	clear(b[:cap(b)])
	checkBytes(t, "another answer", other, fullBytes())
	third, _ := img.Put(full())
	checkBytes(t, "a later answer", third, fullBytes())
}

func TestOfSharesNothing(t *testing.T) { // P2: the name too stays as it is
	b := append(fullBytes(), 1, 2, 3)
	h, _ := img.Of(b[:64])
	checkBytes(t, "what was given", b, append(fullBytes(), 1, 2, 3))
	clear(b)
	if h != full() {
		t.Errorf("the header changes with its bytes: %+v", h)
	}
}
