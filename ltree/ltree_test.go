package ltree_test

import (
	"bytes"
	"crypto/sha256"
	"encoding/binary"
	"encoding/hex"
	"fmt"
	"math"
	"slices"
	"testing"

	"portreeve/adrs"
	"portreeve/api"
	"portreeve/ltree"
	"portreeve/prf"
	"portreeve/wots"
)

// node reads 32 bytes that were worked out apart from this program.
func node(t *testing.T, text string) api.Node {
	t.Helper()
	b, err := hex.DecodeString(text)
	if err != nil || len(b) != 32 {
		t.Fatal(text)
	}
	return api.Node(b)
}

// from are the 32 bytes that count on from n.
func from(n int) api.Node {
	var out api.Node
	for i := range out {
		out[i] = byte(n + i)
	}
	return out
}

// filled are 32 times the same byte.
func filled(b byte) api.Node { return api.Node(bytes.Repeat([]byte{b}, 32)) }

// unlike are n nodes, no two of them the same.
func unlike(n int) []api.Node {
	var l []api.Node
	for i := range n {
		l = append(l, sha256.Sum256(binary.BigEndian.AppendUint32(nil, uint32(i))))
	}
	return l
}

// joined is one sum of many nodes.
func joined(l []api.Node) api.Node {
	var b []byte
	for _, n := range l {
		b = append(b, n[:]...)
	}
	return sha256.Sum256(b)
}

// indices are those at which a byte of an idx, or its sign, turns over, and those whose bits are alike and unlike.
func indices() []uint32 {
	return []uint32{
		0, 1, 2, 3, 255, 256, 1<<10 - 1, 1 << 10, 1 << 16, 0x01020304, 0x55555555, 0xaaaaaaaa, 0xffff0000, 0x0000ffff,
		1<<31 - 1, 1 << 31, 1<<31 + 1, math.MaxUint32 - 1, math.MaxUint32,
	}
}

// keyed is the hash of RFC 8391, 5.1, by the library.
func keyed(kind byte, key api.Node, parts ...[]byte) api.Node {
	whole := append(make([]byte, 31), kind)
	return sha256.Sum256(append(append(whole, key[:]...), bytes.Join(parts, nil)...))
}

// modelRand is RAND_HASH of RFC 8391, 4.1.4, at an address whose layer and tree are 0.
func modelRand(l, r, seed api.Node, kind, a, b, c uint32) api.Node {
	var k [3]api.Node
	for mask := range k {
		place := make([]byte, 12)
		for _, w := range []uint32{kind, a, b, c, uint32(mask)} {
			place = binary.BigEndian.AppendUint32(place, w)
		}
		k[mask] = keyed(3, seed, place)
	}
	for i := range l {
		l[i] ^= k[1][i]
		r[i] ^= k[2][i]
	}
	return keyed(1, k[0], l[:], r[:])
}

// modelLeaf goes from the top down: a node is of those of 2^height nodes that there are; if all of them are of its left half it is that half's.
func modelLeaf(pk []api.Node, seed api.Node, idx uint32) api.Node {
	var of func(height, i int) api.Node
	of = func(height, i int) api.Node {
		if height == 0 {
			return pk[i]
		}
		l := of(height-1, 2*i)
		if (2*i+1)<<(height-1) >= len(pk) {
			return l
		}
		return modelRand(l, of(height-1, 2*i+1), seed, 1, idx, uint32(height-1), uint32(i))
	}
	if len(pk) == 0 || len(pk) > 1000 {
		return api.Node{}
	}
	return of(10, 0)
}

// modelRoot halves idx as it goes up, with numbers that no shift cuts off.
func modelRoot(leaf api.Node, idx uint32, auth []api.Node, seed api.Node) api.Node {
	i := uint64(idx)
	for k, n := range auth {
		if i%2 == 0 {
			leaf = modelRand(leaf, n, seed, 2, 0, uint32(k), uint32(i/2))
		} else {
			leaf = modelRand(n, leaf, seed, 2, 0, uint32(k), uint32(i/2))
		}
		i /= 2
	}
	return leaf
}

// modelTree is all nodes of a tree, height by height.
func modelTree(leaves []api.Node, seed api.Node) [][]api.Node {
	all := [][]api.Node{leaves}
	for n := len(leaves) / 2; n > 0; n /= 2 {
		k := len(all) - 1
		var up []api.Node
		for i := range n {
			up = append(up, modelRand(all[k][2*i], all[k][2*i+1], seed, 2, 0, uint32(k), uint32(i)))
		}
		all = append(all, up)
	}
	return all
}

// modelAuth reads the neighbours off the tree.
func modelAuth(tree [][]api.Node, idx uint32) []api.Node {
	var auth []api.Node
	for k := range len(tree) - 1 {
		i := int(idx) >> k
		if i%2 == 0 {
			auth = append(auth, tree[k][i+1])
		} else {
			auth = append(auth, tree[k][i-1])
		}
	}
	return auth
}

func check(t *testing.T, what string, got, want api.Node) {
	t.Helper()
	if got != want {
		t.Errorf("%s = %x, want %x", what, got, want)
	}
}

func checkAll(t *testing.T, what string, got, want []api.Node) {
	t.Helper()
	if !slices.Equal(got, want) {
		t.Errorf("%s: %d nodes, %x, want %d, %x", what, len(got), got, len(want), want)
	}
}

// checkPath holds a Path that may be against what is wanted of it.
func checkPath(t *testing.T, leaves []api.Node, idx uint32, seed api.Node, wantAuth []api.Node, wantRoot api.Node) {
	t.Helper()
	what := fmt.Sprintf("Path of %d leaves at %d", len(leaves), idx)
	auth, root, is := ltree.Path(leaves, idx, seed)
	if !is {
		t.Errorf("%s is none", what)
	}
	checkAll(t, what, auth, wantAuth)
	check(t, what+": root", root, wantRoot)
}

// checkNoPath asks for nothing and false.
func checkNoPath(t *testing.T, leaves []api.Node, idx uint32) {
	t.Helper()
	auth, root, is := ltree.Path(leaves, idx, from(2))
	if auth != nil || root != (api.Node{}) || is {
		t.Errorf("Path of %d leaves at %d: %d nodes, root %x, %v", len(leaves), idx, len(auth), root, is)
	}
}

func TestKnownAnswers(t *testing.T) { // P7.1 to P7.3: whatever the model says
	seed, u := from(100), unlike(1024)
	path2, root2, _ := ltree.Path(u[:2], 1, seed)
	path4, root4, _ := ltree.Path(u[:4], 2, seed)
	pathMid, rootMid, _ := ltree.Path(u, 0x155, seed)
	pathLast, rootLast, _ := ltree.Path(u, 1023, seed)
	for _, k := range []struct {
		what string
		got  api.Node
		want string
	}{
		{"Leaf of 2", ltree.Leaf(u[:2], seed, 0x01020304), "c5bcdaec17d59bc774441bf3916425165bc1c9da2c3100fea857943aa990f21a"},
		{"Leaf of 3", ltree.Leaf(u[:3], seed, 0x01020304), "b39fdaaf03ae85d08c29760dae9f13b53d7035c18c2783c38a47d03dffed7682"},
		{"Leaf of 67", ltree.Leaf(u[:67], seed, 0x01020304), "7957a450795211d222c3cd4d320ef659ca46c4de8febe5c1a625778f45b8a9d6"},
		{"Leaf of 1000", ltree.Leaf(u[:1000], seed, 0x01020304), "24757798a3ccbc1215f4947ff8c836cc8da2643ee0679025da2c14c48caec97e"},
		{"Root of one node", ltree.Root(from(1), 0, u[:1], seed), "9046b0c5fb6149bd40f2e80682612084f6f99946df6e80ce2e824e264c2e1932"},
		{"Root of 3 nodes", ltree.Root(from(1), 6, u[:3], seed), "f6da668fc54008067d50f041ca68fad19d2fb82822f8c82f60b2a7417cfbf87f"},
		{"Root of 32 nodes", ltree.Root(from(1), 0x01020304, u[:32], seed), "83b9be41ed3a7c4ff41262fb32a127a9da28136dd519708f74a86bfde9988ac1"},
		{"Root at the last idx", ltree.Root(from(1), math.MaxUint32, u[:32], seed), "8a13a2dcca14894dcffc53439da109fd3da12fead7f12903065c3b45af418475"},
		{"Path of 2", joined(path2), "8cb9012517c817fead650287d61bdd9c68803b6bf9c64133dcab3e65b5a50cb9"},
		{"root of 2", root2, "d523a0e5a901376419b8a7a2f540dfeb5713504aafb35f5f79415ce9587863fa"},
		{"Path of 4", joined(path4), "f644a025b9c3160ebffd258f457b7525316757be73fb16b97e77b624fe7e77f2"},
		{"root of 4", root4, "8e8b21ae70fc942f37d60ecb85f6b3be26b49ca70e40e380e29f47b0fb1867d2"},
		{"Path of 1024", joined(pathMid), "b1795f44d12d9da7c3a5d1a911cb35b4427ea6e2fe608182cf91a7bdbfd515d7"},
		{"Path of 1024 at the last", joined(pathLast), "58778eedf42be3c52dff6fdffd621770b565985dc1eea7bd4b644bcc58a501d0"},
		{"root of 1024", rootMid, "a512fa75276f5d8483576e54d163cdd0f24a165157802d1305368b664f92ddd2"},
		{"root of 1024 again", rootLast, "a512fa75276f5d8483576e54d163cdd0f24a165157802d1305368b664f92ddd2"},
	} {
		check(t, k.what, k.got, node(t, k.want))
	}
}

func TestLeafIsOfRands(t *testing.T) { // P7.1: in the words of the layers below
	u, seed, idx := unlike(5), from(70), uint32(9)
	two := prf.Rand(u[0], u[1], seed, adrs.Ltree(idx, 0, 0))
	check(t, "Leaf of two", ltree.Leaf(u[:2], seed, idx), two)
	check(t, "Leaf of three", ltree.Leaf(u[:3], seed, idx), prf.Rand(two, u[2], seed, adrs.Ltree(idx, 1, 0)))
	four := prf.Rand(two, prf.Rand(u[2], u[3], seed, adrs.Ltree(idx, 0, 1)), seed, adrs.Ltree(idx, 1, 0))
	check(t, "Leaf of four", ltree.Leaf(u[:4], seed, idx), four)
	check(t, "Leaf of five", ltree.Leaf(u, seed, idx), prf.Rand(four, u[4], seed, adrs.Ltree(idx, 2, 0)))
}

func TestLeafOfEachNumber(t *testing.T) { // P7.1: odd and even at all heights
	all := unlike(1000)
	numbers := []int{255, 256, 257, 511, 512, 513, 767, 998, 999, 1000}
	for n := range 140 {
		numbers = append(numbers, n)
	}
	for _, n := range numbers {
		for _, idx := range []uint32{0, 0x01020304, math.MaxUint32} {
			check(t, fmt.Sprintf("Leaf of %d at %d", n, idx), ltree.Leaf(all[:n], from(5), idx), modelLeaf(all[:n], from(5), idx))
		}
	}
}

func TestLeafOfNone(t *testing.T) { // P7.1, P3: nil or empty, 32 bytes 0
	for _, idx := range indices() {
		for _, seed := range append(unlike(3), filled(0), filled(0xff)) {
			check(t, "Leaf of nil", ltree.Leaf(nil, seed, idx), api.Node{})
			check(t, "Leaf of an empty list", ltree.Leaf([]api.Node{}, seed, idx), api.Node{})
			check(t, "Leaf of no nodes ahead of others", ltree.Leaf(unlike(3)[:0], seed, idx), api.Node{})
		}
	}
}

func TestLeafOfOne(t *testing.T) { // P7.1: that node as it is
	for _, n := range append(unlike(5), filled(0), filled(0xff), from(1)) {
		for _, idx := range indices() {
			check(t, "Leaf of one", ltree.Leaf([]api.Node{n}, from(2), idx), n)
		}
	}
}

func TestLeafOfTooMany(t *testing.T) { // P7.1: 1000 may be, 1001 not
	all := unlike(1 << 16)
	for _, n := range []int{1001, 1002, 1003, 1023, 1024, 1025, 1999, 2000, 2048, 65535, 65536} {
		for _, idx := range []uint32{0, 7, math.MaxUint32} {
			check(t, fmt.Sprintf("Leaf of %d", n), ltree.Leaf(all[:n], from(2), idx), api.Node{})
		}
	}
	if ltree.Leaf(all[:1000], from(2), 0) == (api.Node{}) {
		t.Error("Leaf of 1000 nodes is none")
	}
}

func TestLeafHangsOnAll(t *testing.T) { // P7.1: idx, seed, each node and its place
	key := wots.Key(from(1), from(2), 3)
	seen := map[api.Node]bool{}
	put := func(pk []api.Node, seed api.Node, idx uint32) {
		got := ltree.Leaf(pk, seed, idx)
		check(t, "Leaf", got, modelLeaf(pk, seed, idx))
		if seen[got] {
			t.Errorf("Leaf of two that are apart: %x", got)
		}
		seen[got] = true
	}
	for _, idx := range indices() {
		put(key, from(2), idx)
	}
	for _, seed := range append(unlike(5), filled(0), filled(0xff)) {
		put(key, seed, 3)
	}
	for i := range key {
		other := slices.Clone(key)
		other[i][i%32] ^= 0x80
		put(other, from(2), 3)
	}
	back := slices.Clone(key)
	slices.Reverse(back)
	put(back, from(2), 3)
}

func TestRootIsOfRands(t *testing.T) { // P7.2: in the words of the layers below
	u, seed := unlike(3), from(70)
	x := prf.Rand(from(1), u[0], seed, adrs.Tree(0, 11))
	x = prf.Rand(u[1], x, seed, adrs.Tree(1, 5))
	x = prf.Rand(u[2], x, seed, adrs.Tree(2, 2))
	check(t, "Root at 22", ltree.Root(from(1), 22, u, seed), x) // 22 is 10110: higher bits go into the places
}

func TestRootOfNone(t *testing.T) { // P7.2: the leaf as it is
	for _, leaf := range append(unlike(5), filled(0), filled(0xff)) {
		for _, idx := range indices() {
			check(t, "Root without auth", ltree.Root(leaf, idx, nil, from(2)), leaf)
			check(t, "Root with an empty auth", ltree.Root(leaf, idx, []api.Node{}, from(2)), leaf)
			check(t, "Root with no auth ahead of others", ltree.Root(leaf, idx, unlike(3)[:0], from(2)), leaf)
		}
	}
}

func TestRoot(t *testing.T) { // P7.2: each number of nodes that may be, with bits alike and unlike
	all := unlike(32)
	for n := range 33 {
		for _, idx := range indices() {
			got, want := ltree.Root(from(3), idx, all[:n], from(4)), modelRoot(from(3), idx, all[:n], from(4))
			check(t, fmt.Sprintf("Root of %d nodes at %x", n, idx), got, want)
		}
	}
}

func TestRootOfEachBit(t *testing.T) { // P7.2: each bit of idx tells of one height, and of the places ahead of it
	all := unlike(32)
	seen := map[api.Node]bool{}
	for k := range 32 {
		for _, idx := range []uint32{1 << k, ^uint32(1 << k)} {
			got := ltree.Root(from(3), idx, all, from(4))
			check(t, fmt.Sprintf("Root at %x", idx), got, modelRoot(from(3), idx, all, from(4)))
			if seen[got] {
				t.Errorf("Root at %x is another's", idx)
			}
			seen[got] = true
		}
	}
}

func TestRootOfTooMany(t *testing.T) { // P7.2: 32 may be, 33 not
	all := unlike(1000)
	for _, n := range []int{33, 34, 63, 64, 65, 255, 256, 257, 1000} {
		for _, idx := range indices() {
			check(t, fmt.Sprintf("Root of %d nodes", n), ltree.Root(from(3), idx, all[:n], from(4)), api.Node{})
		}
	}
	if ltree.Root(from(3), 0, all[:32], from(4)) == (api.Node{}) {
		t.Error("Root of 32 nodes is none")
	}
}

func TestRootHangsOnAll(t *testing.T) { // P7.2: leaf, seed, each node of auth
	auth := unlike(32)
	seen := map[api.Node]bool{}
	put := func(leaf, seed api.Node, auth []api.Node) {
		got := ltree.Root(leaf, 0x01020304, auth, seed)
		check(t, "Root", got, modelRoot(leaf, 0x01020304, auth, seed))
		if seen[got] {
			t.Errorf("Root of two that are apart: %x", got)
		}
		seen[got] = true
	}
	put(from(1), from(2), auth)
	put(from(2), from(1), auth)
	for _, n := range []api.Node{filled(0), filled(0xff)} {
		put(n, from(2), auth)
		put(from(1), n, auth)
	}
	for i := range auth {
		other := slices.Clone(auth)
		other[i][31-i] ^= 1
		put(from(1), from(2), other)
	}
}

func TestPathIsOfRands(t *testing.T) { // P7.3: in the words of the layers below
	u, seed := unlike(4), from(70)
	l, r := prf.Rand(u[0], u[1], seed, adrs.Tree(0, 0)), prf.Rand(u[2], u[3], seed, adrs.Tree(0, 1))
	root := prf.Rand(l, r, seed, adrs.Tree(1, 0))
	checkPath(t, u, 0, seed, []api.Node{u[1], r}, root)
	checkPath(t, u, 1, seed, []api.Node{u[0], r}, root)
	checkPath(t, u, 2, seed, []api.Node{u[3], l}, root)
	checkPath(t, u, 3, seed, []api.Node{u[2], l}, root)
	checkPath(t, u[:2], 0, seed, u[1:2], l)
	checkPath(t, u[:2], 1, seed, u[:1], l)
}

func TestPathOfOne(t *testing.T) { // P7.3: no neighbours, the leaf is the root, and true
	for _, n := range append(unlike(5), filled(0), filled(0xff)) {
		checkPath(t, []api.Node{n}, 0, from(2), nil, n)
	}
}

func TestPath(t *testing.T) { // P7.3: each height, and of each leaf up to 64 of them
	all := unlike(1024)
	for h := range 11 {
		n := uint32(1) << h
		tree := modelTree(all[:n], from(6))
		at := []uint32{0, n / 3, n / 2, n - 1}
		for idx := uint32(0); n <= 64 && idx < n; idx++ {
			at = append(at, idx)
		}
		for _, idx := range at {
			checkPath(t, all[:n], idx, from(6), modelAuth(tree, idx), tree[h][0])
		}
	}
}

func TestPathOfSeedsAndLeaves(t *testing.T) { // P7.3: leaves that are alike, and all manner of seeds
	for _, seed := range append(unlike(3), filled(0), filled(0xff)) {
		for _, leaves := range [][]api.Node{unlike(8), make([]api.Node, 8), slices.Repeat([]api.Node{filled(0xff)}, 8)} {
			tree := modelTree(leaves, seed)
			for idx := range uint32(8) {
				checkPath(t, leaves, idx, seed, modelAuth(tree, idx), tree[3][0])
			}
		}
	}
}

func TestPathOfWrongNumbers(t *testing.T) { // P7.3: only 2^h with h up to 10 may be
	all := unlike(1 << 12)
	for n := range 1100 {
		if n != 0 && n&(n-1) == 0 {
			continue
		}
		for _, idx := range []uint32{0, uint32(n) / 2, uint32(max(n, 1)) - 1} {
			checkNoPath(t, all[:n], idx)
		}
	}
	for _, n := range []int{1536, 2047, 2048, 2049, 3072, 4096} {
		for _, idx := range []uint32{0, 1, 1023, 1024, uint32(n) - 1} {
			checkNoPath(t, all[:n], idx)
		}
	}
	checkNoPath(t, nil, 0)
	checkNoPath(t, []api.Node{}, 0)
	checkNoPath(t, nil, math.MaxUint32)
}

func TestPathOfNoLeaf(t *testing.T) { // P7.3: an idx behind the last leaf, and one that would be a leaf's if bits were cut off
	all := unlike(1024)
	for h := range 11 {
		n := uint32(1) << h
		for _, idx := range []uint32{n, n + 1, 2*n - 1, 2 * n, 1 << 10, 1 << 16, 1<<16 + n - 1, 1<<31 - 1, 1 << 31, 1<<31 + n - 1, math.MaxUint32 - 1, math.MaxUint32} {
			checkNoPath(t, all[:n], idx)
		}
	}
}

func TestRootByPath(t *testing.T) { // P7.4: of each leaf, at all heights
	all := unlike(1024)
	for h := range 11 {
		n := uint32(1) << h
		step := max(n/16, 1)
		for idx := uint32(0); idx < n; idx += step {
			for _, at := range []uint32{idx, n - 1 - idx} {
				auth, root, is := ltree.Path(all[:n], at, from(8))
				if !is || len(auth) != h {
					t.Fatalf("Path of %d leaves at %d: %d nodes, %v", n, at, len(auth), is)
				}
				check(t, fmt.Sprintf("Root of leaf %d of %d", at, n), ltree.Root(all[at], at, auth, from(8)), root)
			}
		}
	}
}

func TestRootByPathOfKeys(t *testing.T) { // P7.4: with leaves that are those of one-time keys
	var leaves []api.Node
	for idx := range uint32(8) {
		leaves = append(leaves, ltree.Leaf(wots.Key(from(1), from(2), idx), from(2), idx))
	}
	for idx := range uint32(8) {
		auth, root, _ := ltree.Path(leaves, idx, from(2))
		sig := wots.Sign(from(1), from(64), from(2), idx)
		leaf := ltree.Leaf(wots.Public(sig, from(64), from(2), idx), from(2), idx)
		check(t, "Root of a signed leaf", ltree.Root(leaf, idx, auth, from(2)), root)
	}
}

func TestNotRootByPath(t *testing.T) { // P7.4: it takes that leaf, idx, seed and each neighbour
	leaves, seed := unlike(16), from(8)
	auth, root, _ := ltree.Path(leaves, 5, seed)
	for what, got := range map[string]api.Node{
		"another leaf": ltree.Root(leaves[6], 5, auth, seed),
		"another idx":  ltree.Root(leaves[5], 4, auth, seed),
		"a higher idx": ltree.Root(leaves[5], 5+16, auth, seed),
		"another seed": ltree.Root(leaves[5], 5, auth, from(9)),
		"less auth":    ltree.Root(leaves[5], 5, auth[:3], seed),
		"more auth":    ltree.Root(leaves[5], 5, append(slices.Clone(auth), filled(0)), seed),
	} {
		if got == root {
			t.Errorf("Root with %s is the root", what)
		}
	}
	for i := range auth {
		bad := slices.Clone(auth)
		bad[i][i] ^= 1
		if ltree.Root(leaves[5], 5, bad, seed) == root {
			t.Errorf("Root with node %d spoilt is the root", i)
		}
	}
}

func TestGivenStays(t *testing.T) { // P2: what is given, and what lies behind its length
	whole := unlike(1100)
	was := slices.Clone(whole)
	for _, n := range []int{0, 1, 2, 3, 4, 5, 7, 8, 16, 32, 33, 67, 512, 1000, 1001, 1024} {
		own := slices.Clip(slices.Clone(was[:n]))
		check(t, "Leaf with others behind", ltree.Leaf(whole[:n], from(2), 3), ltree.Leaf(own, from(2), 3))
		check(t, "Root with others behind", ltree.Root(from(1), 3, whole[:n], from(2)), ltree.Root(from(1), 3, own, from(2)))
		for _, idx := range []uint32{0, uint32(max(n, 1)) - 1} {
			a, x, is := ltree.Path(whole[:n], idx, from(2))
			b, y, also := ltree.Path(own, idx, from(2))
			checkAll(t, "Path with others behind", a, b)
			if x != y || is != also {
				t.Errorf("Path of %d leaves hangs on what lies behind them", n)
			}
		}
		if !slices.Equal(whole, was) || !slices.Equal(own, was[:n]) {
			t.Fatalf("a list of %d nodes that was handed in is changed", n)
		}
	}
}

func TestAnswersAreApart(t *testing.T) { // P2, P3: a Path has memory of its own, and is the same again
	leaves := unlike(16)
	was := slices.Clone(leaves)
	for idx := range uint32(16) {
		first, root, _ := ltree.Path(leaves, idx, from(2))
		kept := slices.Clone(first)
		again, _, _ := ltree.Path(leaves, idx, from(2))
		first = first[:cap(first)]
		for i := range first {
			first[i] = filled(0xee)
		}
		if !slices.Equal(leaves, was) {
			t.Fatal("a Path shares memory with its leaves")
		}
		checkAll(t, "Path again", again, kept)
		checkPath(t, leaves, idx, from(2), kept, root)
	}
}
