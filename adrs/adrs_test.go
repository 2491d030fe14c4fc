package adrs_test

import (
	"encoding/binary"
	"encoding/hex"
	"math"
	"strings"
	"testing"

	"portreeve/adrs"
	"portreeve/api"
)

func node(text string) api.Node {
	b, err := hex.DecodeString(strings.ReplaceAll(text, " ", ""))
	if err != nil || len(b) != 32 {
		panic(text)
	}
	return api.Node(b)
}

// model lays an address out by the library.
func model(a api.Adrs) api.Node {
	var b []byte
	b = binary.BigEndian.AppendUint32(b, a.Layer)
	b = binary.BigEndian.AppendUint64(b, a.Tree)
	for _, w := range []uint32{a.Kind, a.A, a.B, a.C, a.Mask} {
		b = binary.BigEndian.AppendUint32(b, w)
	}
	return api.Node(b)
}

// edges are numbers whose bytes are all unlike, and those at which a number's bytes, or its sign, turn over.
func edges() []uint32 {
	l := []uint32{0, 1, 2, 3, 127, 128, 255, 256, 257, 0x01020304, 0xfffefdfc, math.MaxUint32, math.MaxUint32 - 1}
	for i := range 32 {
		l = append(l, 1<<i, 1<<i-1)
	}
	return l
}

func wide() []uint64 {
	l := []uint64{0, 0x0102030405060708, math.MaxUint64, math.MaxUint64 - 1, math.MaxUint32, 1 << 32}
	for i := range 64 {
		l = append(l, 1<<i, 1<<i-1)
	}
	return l
}

// numbers answers others at each call, the same ones in each run.
func numbers() func() uint32 {
	x := uint32(12345)
	return func() uint32 {
		x = x*1664525 + 1013904223
		return x ^ x>>15
	}
}

func some(next func() uint32) api.Adrs {
	return api.Adrs{
		Layer: next(),
		Tree:  uint64(next())<<32 | uint64(next()),
		Kind:  next(),
		A:     next(),
		B:     next(),
		C:     next(),
		Mask:  next(),
	}
}

// P4.1
func TestBytesLaysEachFieldByItself(t *testing.T) {
	const zeros = "00000000 00000000 00000000 00000000"
	for _, c := range []struct {
		a    api.Adrs
		want string
	}{
		{api.Adrs{}, zeros + zeros},
		{api.Adrs{Layer: 0x01020304}, "01020304 00000000 00000000 00000000" + zeros},
		{api.Adrs{Tree: 0x0102030405060708}, "00000000 01020304 05060708 00000000" + zeros},
		{api.Adrs{Kind: 0x01020304}, "00000000 00000000 00000000 01020304" + zeros},
		{api.Adrs{A: 0x01020304}, zeros + "01020304 00000000 00000000 00000000"},
		{api.Adrs{B: 0x01020304}, zeros + "00000000 01020304 00000000 00000000"},
		{api.Adrs{C: 0x01020304}, zeros + "00000000 00000000 01020304 00000000"},
		{api.Adrs{Mask: 0x01020304}, zeros + "00000000 00000000 00000000 01020304"},
		{api.Adrs{Layer: math.MaxUint32}, "ffffffff 00000000 00000000 00000000" + zeros},
		{api.Adrs{Tree: math.MaxUint64}, "00000000 ffffffff ffffffff 00000000" + zeros},
		{api.Adrs{Tree: math.MaxUint32}, "00000000 00000000 ffffffff 00000000" + zeros},
		{api.Adrs{Kind: math.MaxUint32}, "00000000 00000000 00000000 ffffffff" + zeros},
		{api.Adrs{A: math.MaxUint32}, zeros + "ffffffff 00000000 00000000 00000000"},
		{api.Adrs{B: math.MaxUint32}, zeros + "00000000 ffffffff 00000000 00000000"},
		{api.Adrs{C: math.MaxUint32}, zeros + "00000000 00000000 ffffffff 00000000"},
		{api.Adrs{Mask: math.MaxUint32}, zeros + "00000000 00000000 00000000 ffffffff"},
	} {
		if got := adrs.Bytes(c.a); got != node(c.want) {
			t.Errorf("Bytes(%+v) = %x", c.a, got)
		}
		if got := adrs.Of(node(c.want)); got != c.a {
			t.Errorf("Of(%s) = %+v", c.want, got)
		}
	}
}

// P4.1
func TestBytesLaysAllFieldsBehindOneAnother(t *testing.T) {
	a := api.Adrs{Layer: 0x01020304, Tree: 0x05060708090a0b0c, Kind: 0x0d0e0f10, A: 0x11121314, B: 0x15161718, C: 0x191a1b1c, Mask: 0x1d1e1f20}
	n := api.Node{}
	for i := range n {
		n[i] = byte(i + 1)
	}
	if got := adrs.Bytes(a); got != n {
		t.Errorf("Bytes = %x", got)
	}
	if got := adrs.Of(n); got != a {
		t.Errorf("Of = %+v", got)
	}
	for i := range n {
		n[i] = 0xff
	}
	a = api.Adrs{Layer: math.MaxUint32, Tree: math.MaxUint64, Kind: math.MaxUint32, A: math.MaxUint32, B: math.MaxUint32, C: math.MaxUint32, Mask: math.MaxUint32}
	if got := adrs.Bytes(a); got != n {
		t.Errorf("Bytes of all the greatest = %x", got)
	}
}

// P4.1, P4.3
func TestBytesIsAsTheLibraryLays(t *testing.T) {
	next := numbers()
	for range 5000 {
		a := some(next)
		if got := adrs.Bytes(a); got != model(a) {
			t.Fatalf("Bytes(%+v) = %x", a, got)
		}
		if got := adrs.Of(model(a)); got != a {
			t.Fatalf("Of(Bytes(%+v)) = %+v", a, got)
		}
	}
}

// P4.1: the example of the chapter.
func TestBytesOfAnOts(t *testing.T) {
	want := node("00000000 00000000 00000000 00000000 00000001 00000002 00000003 00000000")
	if got := adrs.Bytes(adrs.Ots(1, 2, 3)); got != want {
		t.Errorf("%x", got)
	}
}

// P4.2: all else is 0, which whole addresses are held against.
func TestKindsNameTheirFields(t *testing.T) {
	for _, x := range edges() {
		for _, y := range edges() {
			if got := adrs.Ots(x, y, ^x); got != (api.Adrs{Kind: 0, A: x, B: y, C: ^x}) {
				t.Fatalf("Ots(%d, %d, %d) = %+v", x, y, ^x, got)
			}
			if got := adrs.Ots(y, ^x, x); got != (api.Adrs{Kind: 0, A: y, B: ^x, C: x}) {
				t.Fatalf("Ots(%d, %d, %d) = %+v", y, ^x, x, got)
			}
			if got := adrs.Ltree(x, y, ^x); got != (api.Adrs{Kind: 1, A: x, B: y, C: ^x}) {
				t.Fatalf("Ltree(%d, %d, %d) = %+v", x, y, ^x, got)
			}
			if got := adrs.Ltree(y, ^x, x); got != (api.Adrs{Kind: 1, A: y, B: ^x, C: x}) {
				t.Fatalf("Ltree(%d, %d, %d) = %+v", y, ^x, x, got)
			}
			if got := adrs.Tree(x, y); got != (api.Adrs{Kind: 2, B: x, C: y}) {
				t.Fatalf("Tree(%d, %d) = %+v", x, y, got)
			}
		}
	}
}

// P4.2
func TestMaskedSetsTheMaskAlone(t *testing.T) {
	next := numbers()
	for _, m := range edges() {
		a := some(next)
		want := a
		want.Mask = m
		was := a
		if got := adrs.Masked(a, m); got != want {
			t.Fatalf("Masked(%+v, %d) = %+v", a, m, got)
		}
		if a != was {
			t.Fatal("what was given is changed")
		}
		if got := adrs.Masked(adrs.Masked(a, m), a.Mask); got != a {
			t.Fatalf("masked there and back: %+v", got)
		}
		if got := adrs.Masked(api.Adrs{}, m); got != (api.Adrs{Mask: m}) {
			t.Fatalf("Masked(zero, %d) = %+v", m, got)
		}
	}
}

// P4.3
func TestOfAndBytesUndoOneAnother(t *testing.T) {
	both := func(a api.Adrs) {
		t.Helper()
		if got := adrs.Of(adrs.Bytes(a)); got != a {
			t.Fatalf("Of(Bytes(%+v)) = %+v", a, got)
		}
	}
	for _, x := range edges() {
		for _, a := range []api.Adrs{{Layer: x}, {Kind: x}, {A: x}, {B: x}, {C: x}, {Mask: x}} {
			both(a)
		}
		both(adrs.Masked(adrs.Ots(x, x, x), x))
		both(adrs.Masked(adrs.Ltree(x, x, x), x))
		both(adrs.Masked(adrs.Tree(x, x), x))
	}
	for _, x := range wide() {
		both(api.Adrs{Tree: x})
	}
	for i := range 32 {
		for v := range 256 {
			n := api.Node{}
			n[i], n[31-i] = byte(v), n[31-i]^byte(v)>>1
			if got := adrs.Bytes(adrs.Of(n)); got != n {
				t.Fatalf("Bytes(Of(%x)) = %x", n, got)
			}
		}
	}
}

// P4.3: of all kinds, with the same numbers in the other fields.
func TestKindsAreApart(t *testing.T) {
	next := numbers()
	for range 20 {
		a := some(next)
		seen := map[api.Node]uint32{}
		kinds := map[uint32]int{}
		for _, k := range edges() {
			a.Kind = k
			kinds[k]++
			seen[adrs.Bytes(a)] = k
		}
		if len(seen) != len(kinds) {
			t.Fatalf("%d kinds have %d Bytes", len(kinds), len(seen))
		}
		for n, k := range seen {
			if adrs.Of(n).Kind != k {
				t.Fatalf("kind %d is read as %d", k, adrs.Of(n).Kind)
			}
		}
	}
}

// P4.3: what the three makers answer is apart, whatever they are given.
func TestMakersAreApart(t *testing.T) {
	maker := map[api.Node]string{}
	put := func(a api.Adrs, who string) {
		t.Helper()
		n := adrs.Bytes(a)
		if other, is := maker[n]; is && other != who {
			t.Fatalf("%s and %s have the same Bytes %x", other, who, n)
		}
		maker[n] = who
	}
	few := []uint32{0, 1, 2, 3, 0x01000000, math.MaxUint32}
	for _, x := range few {
		for _, y := range few {
			put(adrs.Tree(x, y), "Tree")
			for _, z := range few {
				put(adrs.Ots(x, y, z), "Ots")
				put(adrs.Ltree(x, y, z), "Ltree")
			}
		}
	}
	if n := len(few); len(maker) != n*n+2*n*n*n {
		t.Fatalf("%d addresses have unlike Bytes", len(maker))
	}
}
