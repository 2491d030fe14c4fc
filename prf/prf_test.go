package prf_test

import (
	"bytes"
	"crypto/sha256"
	"encoding/binary"
	"encoding/hex"
	"math"
	"testing"

	"portreeve/api"
	"portreeve/prf"
	"portreeve/sha"
)

// node reads 32 bytes that were worked out apart from this program.
func node(t *testing.T, text string) api.Node {
	t.Helper()
	b, err := hex.DecodeString(text)
	if err != nil || len(b) != 32 {
		t.Fatal(text)
	}
	return api.Node(b)
}

// from are the 32 bytes that count on from n.
func from(n int) api.Node {
	var out api.Node
	for i := range out {
		out[i] = byte(n + i)
	}
	return out
}

// filled are 32 times the same byte.
func filled(b byte) api.Node { return api.Node(bytes.Repeat([]byte{b}, 32)) }

// some are the nodes of the least and of the greatest bytes, and others whose bytes are all unlike.
func some() []api.Node { return []api.Node{filled(0), filled(0xff), from(1), from(97), from(200)} }

// long32 is a number as the 32 bytes of RFC 8391's toByte(n, 32).
func long32(n uint32) []byte { return binary.BigEndian.AppendUint32(make([]byte, 28), n) }

// model is the keyed hash by the library.
func model(kind uint32, parts ...[]byte) api.Node {
	return sha256.Sum256(append(long32(kind), bytes.Join(parts, nil)...))
}

// modelPrf lays the address out field by field.
func modelPrf(key api.Node, a api.Adrs) api.Node {
	b := binary.BigEndian.AppendUint32(nil, a.Layer)
	b = binary.BigEndian.AppendUint64(b, a.Tree)
	for _, w := range []uint32{a.Kind, a.A, a.B, a.C, a.Mask} {
		b = binary.BigEndian.AppendUint32(b, w)
	}
	return model(3, key[:], b)
}

func modelRand(l, r, seed api.Node, a api.Adrs) api.Node {
	var k [3]api.Node
	for i := range k {
		a.Mask = uint32(i)
		k[i] = modelPrf(seed, a)
	}
	for i := range l {
		l[i] ^= k[1][i]
		r[i] ^= k[2][i]
	}
	return model(1, k[0][:], l[:], r[:])
}

// place is an address whose bytes are 1 to 32.
func place() api.Adrs {
	return api.Adrs{Layer: 0x01020304, Tree: 0x05060708090a0b0c, Kind: 0x0d0e0f10, A: 0x11121314, B: 0x15161718, C: 0x191a1b1c, Mask: 0x1d1e1f20}
}

// places are one of no fields, each field alone at its greatest, all of them, and some between.
func places() []api.Adrs {
	const top = math.MaxUint32
	return []api.Adrs{
		{}, place(),
		{Layer: top}, {Tree: math.MaxUint64}, {Kind: top}, {A: top}, {B: top}, {C: top}, {Mask: top},
		{Layer: top, Tree: math.MaxUint64, Kind: top, A: top, B: top, C: top, Mask: top},
		{A: 1, B: 2, C: 3, Mask: 1}, {Kind: 1, A: 1, B: 2, C: 3, Mask: 2}, {Kind: 2, B: 2, C: 3},
	}
}

// indices are those at which a byte of an idx, or its sign, turns over.
func indices() []uint32 {
	return []uint32{0, 1, 255, 256, 1<<10 - 1, 1<<16 - 1, 1 << 16, 1<<20 - 1, 0x01020304, 1<<31 - 1, 1 << 31, math.MaxUint32 - 1, math.MaxUint32}
}

func check(t *testing.T, what string, got, want api.Node) {
	t.Helper()
	if got != want {
		t.Errorf("%s = %x, want %x", what, got, want)
	}
}

func TestKnownAnswers(t *testing.T) { // P5.1 to P5.3: all bytes in their places, whatever the model says
	a, b, c := from(0), from(32), from(64)
	for _, k := range []struct {
		what string
		got  api.Node
		want string
	}{
		{"Keyed 0 of no parts", prf.Keyed(0), "66687aadf862bd776c8fc18b8e9f8e20089714856ee233b3902a591d0d5f2925"},
		{"Keyed of one part", prf.Keyed(0x01020304, []byte("abc")), "36246383ed9d8dde2b0c9a2be87e71d49bbbf560d8afa2dbc5bee3a2f85ed4d4"},
		{"F of zeros", prf.F(api.Node{}, api.Node{}), "2ea9ab9198d1638007400cd2c3bef1cc745b864b76011a0e1bc52180ac6452d4"},
		{"F", prf.F(a, b), "dc7a48014fc1fac8b52af39bc7ea5cafafabf8bb81fb8f880fdf3b4a4566795c"},
		{"H", prf.H(a, b, c), "44446ec9624f654b1492e0f56726f5d034902e05f7bf8231a7152ad52158d365"},
		{"Msg", prf.Msg(a, b, 0x01020304, []byte("abc")), "757d9a08389ac05c69a6e72e4260725033f4871d81add441e0e909f43335e1e6"},
		{"Prf", prf.Prf(a, place()), "4d9c76988a8392f8b72e9d5b62875a96b95c5cc9cf5c20d371c4e8347b4626b1"},
		{"Rand", prf.Rand(a, b, c, place()), "fe0f1a0608a88985c2dfcf064fceae402a7f6c5e6471b9eae02cd1192386299c"},
	} {
		check(t, k.what, k.got, node(t, k.want))
	}
}

func TestExample(t *testing.T) { // that of the chapter
	check(t, "F of zeros", prf.F(api.Node{}, api.Node{}), sha.Sum(make([]byte, 96)))
}

func TestKeyed(t *testing.T) { // P5.1
	one, two, three := []byte("a"), []byte("bc"), bytes.Repeat([]byte("def"), 100)
	lists := [][][]byte{
		nil, {}, {nil}, {{}}, {nil, {}, nil},
		{one}, {two}, {three}, {one, two}, {two, one}, {one, two, three}, {three, two, one},
		{one, nil, two}, {nil, one, two}, {one, two, {}}, {two, two, two},
	}
	for _, kind := range []uint32{0, 1, 2, 3, 4, 255, 256, 1 << 16, 1 << 24, 0x01020304, 1 << 31, math.MaxUint32} {
		for _, l := range lists {
			if got := prf.Keyed(kind, l...); got != model(kind, l...) {
				t.Errorf("Keyed(%#x, %q) = %x", kind, l, got)
			}
		}
	}
}

func TestKeyedLengths(t *testing.T) { // P5.1: around the ends of blocks, in one part and in many
	whole := make([]byte, 300)
	for i := range whole {
		whole[i] = byte(7*i + i/256)
	}
	for n := range whole {
		b := whole[:n]
		var bytewise [][]byte
		for i := range b {
			bytewise = append(bytewise, b[i:i+1])
		}
		want := model(3, b)
		if prf.Keyed(3, b) != want || prf.Keyed(3, b[:n/2], b[n/2:]) != want || prf.Keyed(3, bytewise...) != want {
			t.Fatalf("Keyed of %d bytes", n)
		}
	}
}

func TestKeyedIsEmptyAlike(t *testing.T) { // P5.1, P3: parts of no bytes are as if they weren't there
	want := prf.Keyed(2, []byte("x"))
	for _, l := range [][][]byte{{nil, []byte("x")}, {{}, []byte("x"), nil}, {[]byte("x"), {}, {}}} {
		check(t, "Keyed with parts of no bytes", prf.Keyed(2, l...), want)
	}
	check(t, "Keyed of parts of no bytes", prf.Keyed(2, nil, []byte{}), prf.Keyed(2))
}

func TestNodes(t *testing.T) { // P5.2: F, H
	for _, k := range some() {
		for _, x := range some() {
			check(t, "F", prf.F(k, x), model(0, k[:], x[:]))
			for _, y := range some() {
				check(t, "H", prf.H(k, x, y), model(1, k[:], x[:], y[:]))
			}
		}
	}
}

func TestMsg(t *testing.T) { // P5.2
	messages := [][]byte{nil, {}, {0}, []byte("abc"), bytes.Repeat([]byte{0xa5}, 31), bytes.Repeat([]byte{0x5a}, 32), bytes.Repeat([]byte("portreeve"), 1000)}
	for _, idx := range indices() {
		for _, m := range messages {
			for _, r := range some() {
				root := from(150)
				if got := prf.Msg(r, root, idx, m); got != model(2, r[:], root[:], long32(idx), m) {
					t.Errorf("Msg of idx %#x and %d bytes = %x", idx, len(m), got)
				}
			}
		}
	}
	check(t, "Msg of nil", prf.Msg(from(1), from(2), 3, nil), prf.Msg(from(1), from(2), 3, []byte{}))
}

func TestPrf(t *testing.T) { // P5.2
	for _, k := range some() {
		for _, a := range places() {
			if got := prf.Prf(k, a); got != modelPrf(k, a) {
				t.Errorf("Prf(%x, %+v) = %x", k, a, got)
			}
		}
	}
}

func TestKindsAreApart(t *testing.T) { // P5.2: the same bytes, hashed for each of the four uses
	x := from(1)
	// The bytes of place() are those of from(1), and those of wide are the message of Msg's third part.
	wide := api.Node(long32(9))
	seen := map[api.Node]string{}
	for _, k := range []struct {
		what string
		n    api.Node
	}{
		{"F", prf.F(x, x)}, {"Prf", prf.Prf(x, place())}, {"H", prf.H(x, x, wide)}, {"Msg", prf.Msg(x, x, 9, nil)},
		{"Keyed 4", prf.Keyed(4, x[:], x[:])}, {"Keyed 4 of three", prf.Keyed(4, x[:], x[:], wide[:])},
	} {
		if other, is := seen[k.n]; is {
			t.Errorf("%s is %s", k.what, other)
		}
		seen[k.n] = k.what
	}
}

func TestRand(t *testing.T) { // P5.3
	for _, l := range some() {
		for _, r := range some() {
			for _, a := range places() {
				if got := prf.Rand(l, r, from(50), a); got != modelRand(l, r, from(50), a) {
					t.Errorf("Rand(%x, %x, .., %+v) = %x", l, r, a, got)
				}
			}
		}
	}
	for _, seed := range some() {
		check(t, "Rand", prf.Rand(from(3), from(40), seed, place()), modelRand(from(3), from(40), seed, place()))
	}
}

func TestRandOfAnyMask(t *testing.T) { // P5.3: a Mask that was there already tells nothing
	a := place()
	a.Mask = 0
	want := prf.Rand(from(3), from(40), from(50), a)
	for _, mask := range append(indices(), 2, 3) {
		a.Mask = mask
		check(t, "Rand of another mask", prf.Rand(from(3), from(40), from(50), a), want)
	}
}

func TestRandHangsOnAll(t *testing.T) { // P5.3: each of its nodes, their order, each field but the mask
	l, r, seed := from(3), from(40), from(50)
	seen := map[api.Node]string{}
	put := func(what string, n api.Node) {
		if other, is := seen[n]; is {
			t.Errorf("Rand of %s is that of %s", what, other)
		}
		seen[n] = what
	}
	put("all", prf.Rand(l, r, seed, api.Adrs{}))
	put("the two the other way round", prf.Rand(r, l, seed, api.Adrs{}))
	put("another left one", prf.Rand(filled(1), r, seed, api.Adrs{}))
	put("another right one", prf.Rand(l, filled(1), seed, api.Adrs{}))
	put("another seed", prf.Rand(l, r, filled(1), api.Adrs{}))
	for i, a := range []api.Adrs{{Layer: 1}, {Tree: 1}, {Tree: 1 << 32}, {Kind: 1}, {A: 1}, {B: 1}, {C: 1}} {
		put("field "+string(rune('0'+i)), prf.Rand(l, r, seed, a))
	}
}

func TestXor(t *testing.T) { // P5.3
	for _, a := range some() {
		check(t, "Xor with itself", prf.Xor(a, a), api.Node{})
		check(t, "Xor with zeros", prf.Xor(a, api.Node{}), a)
		for _, b := range some() {
			var want api.Node
			for i := range want {
				want[i] = a[i] ^ b[i]
			}
			check(t, "Xor", prf.Xor(a, b), want)
			check(t, "Xor there and back", prf.Xor(prf.Xor(a, b), b), a)
		}
	}
}

func TestXorByteByByte(t *testing.T) { // P5.3: all pairs of bytes, each in a place of its own
	for x := range 256 {
		for y := range 256 {
			i := (x + 37*y) % 32
			a, b, want := filled(0xf0), filled(0x0f), filled(0xff)
			a[i], b[i], want[i] = byte(x), byte(y), byte(x^y)
			if got := prf.Xor(a, b); got != want {
				t.Fatalf("Xor of %#x and %#x at %d = %x", x, y, i, got)
			}
		}
	}
}

// behind is n bytes 7 with others behind their length, which nobody may read or write.
func behind(n int) (whole, b []byte) {
	whole = append(bytes.Repeat([]byte{7}, n), bytes.Repeat([]byte{0xee}, 100)...)
	return whole, whole[:n]
}

func TestGivenStays(t *testing.T) { // P2
	for _, n := range []int{0, 1, 32, 63, 64, 65} {
		whole, b := behind(n)
		was := bytes.Clone(whole)
		key := from(1)
		check(t, "Keyed", prf.Keyed(1, b, b), model(1, was[:n], was[:n]))
		check(t, "Msg", prf.Msg(key, key, 5, b), model(2, key[:], key[:], long32(5), was[:n]))
		if !bytes.Equal(whole, was) {
			t.Errorf("%d bytes that are given are changed, or those behind them", n)
		}
	}
}

func TestListStays(t *testing.T) { // P2: the list of parts too, and the room behind it
	list := [][]byte{[]byte("a"), []byte("b"), []byte("c"), []byte("d")}
	for n := range list {
		check(t, "Keyed", prf.Keyed(1, list[:n]...), model(1, list[:n]...))
		for i, want := range []string{"a", "b", "c", "d"} {
			if string(list[i]) != want {
				t.Fatalf("behind Keyed of %d parts part %d is %q", n, i, list[i])
			}
		}
	}
}

func TestNodesStay(t *testing.T) { // P2, P3: nodes and addresses are values, and each call answers alike
	a, b, c, p := from(1), from(2), from(3), place()
	first := []api.Node{prf.F(a, b), prf.H(a, b, c), prf.Prf(a, p), prf.Rand(a, b, c, p), prf.Xor(a, b)}
	again := []api.Node{prf.F(a, b), prf.H(a, b, c), prf.Prf(a, p), prf.Rand(a, b, c, p), prf.Xor(a, b)}
	for i := range first {
		check(t, "a call that is made again", again[i], first[i])
	}
	if a != from(1) || b != from(2) || c != from(3) || p != place() {
		t.Error("what is given is changed")
	}
}
