package xmss_test

import (
	"bytes"
	"crypto/sha256"
	"encoding/binary"
	"encoding/hex"
	"fmt"
	"math"
	"slices"
	"testing"

	"portreeve/api"
	"portreeve/ltree"
	"portreeve/prf"
	"portreeve/wots"
	"portreeve/xmss"
)

// kind is what RFC 8391, 5.3, says of one oid; size is a signature's bytes, written out.
type kind struct {
	oid    uint32
	height int
	size   int
}

func kinds() []kind { return []kind{{1, 10, 2500}, {2, 16, 2692}, {3, 20, 2820}} }

// noOids are to either side of 1 to 3, and such as are 1 to 3 if bits are cut off or bytes turned round.
func noOids() []uint32 {
	return []uint32{
		0, 4, 5, 6, 7, 13, 21, 255, 256, 257, 258, 259, 1<<16 + 1, 1<<16 + 2, 1<<16 + 3, 1 << 24, 2 << 24, 3 << 24, 1<<24 + 1,
		1<<31 - 1, 1 << 31, 1<<31 + 1, 1<<31 + 2, 1<<31 + 3, math.MaxUint32 - 2, math.MaxUint32 - 1, math.MaxUint32,
	}
}

// leaves are the least, the greatest and some other numbers that an idx may be.
func (k kind) leaves() []uint32 {
	n := uint32(1) << k.height
	return []uint32{0, 1, 2, 255, 256, n/2 - 1, n / 2, n / 3, n - 2, n - 1}
}

// noLeaves are such as no idx may be, those among them that are a leaf's if bits are cut off.
func (k kind) noLeaves() []uint32 {
	n := uint32(1) << k.height
	return []uint32{n, n + 1, 2*n - 1, 2 * n, 1 << 24, 1<<24 + 1, 1<<31 - 1, 1 << 31, 1<<31 + 1, math.MaxUint32 - 1, math.MaxUint32}
}

// node reads 32 bytes that were worked out apart from this program.
func node(t *testing.T, text string) api.Node {
	t.Helper()
	b, err := hex.DecodeString(text)
	if err != nil || len(b) != 32 {
		t.Fatal(text)
	}
	return api.Node(b)
}

// from are the 32 bytes that count on from n.
func from(n int) api.Node {
	var out api.Node
	for i := range out {
		out[i] = byte(n + i)
	}
	return out
}

// filled are 32 times the same byte.
func filled(b byte) api.Node { return api.Node(bytes.Repeat([]byte{b}, 32)) }

// unlike are n nodes, no two of them the same.
func unlike(n int) []api.Node {
	var l []api.Node
	for i := range n {
		l = append(l, sha256.Sum256(binary.BigEndian.AppendUint32(nil, uint32(i))))
	}
	return l
}

// counted are n bytes, of which no two within 32 and no two nodes are the same.
func counted(n int) []byte {
	var b []byte
	for _, x := range unlike(n/32 + 1) {
		b = append(b, x[:]...)
	}
	return b[:n]
}

// put lays a number and nodes behind one another.
func put(n uint32, l ...api.Node) []byte {
	b := binary.BigEndian.AppendUint32(nil, n)
	for _, x := range l {
		b = append(b, x[:]...)
	}
	return b
}

// keyed is the hash of RFC 8391, 5.1, by the library.
func keyed(kind byte, parts ...[]byte) api.Node {
	whole := append(make([]byte, 31, 128), kind)
	for _, b := range parts {
		whole = append(whole, b...)
	}
	return sha256.Sum256(whole)
}

// modelPrf is the key of an address whose layer and tree are 0; mask is its last word.
func modelPrf(seed api.Node, mask uint32, words ...uint32) api.Node {
	place := make([]byte, 12, 32)
	for _, w := range words {
		place = binary.BigEndian.AppendUint32(place, w)
	}
	return keyed(3, seed[:], binary.BigEndian.AppendUint32(place, mask))
}

func xor(a, b api.Node) []byte {
	for i := range a {
		a[i] ^= b[i]
	}
	return a[:]
}

func modelRand(l, r, seed api.Node, words ...uint32) api.Node {
	key := modelPrf(seed, 0, words...)
	return keyed(1, key[:], xor(l, modelPrf(seed, 1, words...)), xor(r, modelPrf(seed, 2, words...)))
}

func modelChain(x, seed api.Node, idx uint32, chain, from, to int) api.Node {
	for i := from; i < to; i++ {
		key := modelPrf(seed, 0, 0, idx, uint32(chain), uint32(i))
		x = keyed(0, key[:], xor(x, modelPrf(seed, 1, 0, idx, uint32(chain), uint32(i))))
	}
	return x
}

func modelDigits(m api.Node) []int {
	text, sum := hex.EncodeToString(m[:]), 64*15
	var l []int
	for _, r := range text {
		d := bytes.IndexRune([]byte("0123456789abcdef"), r)
		l, sum = append(l, d), sum-d
	}
	return append(l, sum/256, sum/16%16, sum%16)
}

// modelSecrets are chain by chain where a one-time key begins.
func modelSecrets(secret api.Node, idx uint32) (l []api.Node) {
	for chain := range 67 {
		l = append(l, modelPrf(secret, 0, 0, idx, uint32(chain), 0))
	}
	return l
}

// modelLeaf goes from the top down: each node is of up to 2^height of a key's.
func modelLeaf(pk []api.Node, seed api.Node, idx uint32, height, i uint32) api.Node {
	if height == 0 {
		return pk[i]
	}
	l := modelLeaf(pk, seed, idx, height-1, 2*i)
	if int(2*i+1)<<(height-1) >= len(pk) {
		return l
	}
	return modelRand(l, modelLeaf(pk, seed, idx, height-1, 2*i+1), seed, 1, idx, height-1, i)
}

// modelTop goes from a one-time key up to the root.
func modelTop(pk []api.Node, seed api.Node, idx uint32, auth []api.Node) api.Node {
	n := modelLeaf(pk, seed, idx, 7, 0)
	for k, other := range auth {
		if idx%2 == 0 {
			n = modelRand(n, other, seed, 2, 0, uint32(k), idx/2)
		} else {
			n = modelRand(other, n, seed, 2, 0, uint32(k), idx/2)
		}
		idx /= 2
	}
	return n
}

func modelMsg(r, root api.Node, idx uint32, msg []byte) api.Node {
	return keyed(2, r[:], root[:], append(make([]byte, 28), put(idx)...), msg)
}

// modelPk is a one-time key.
func modelPk(secret, seed api.Node, idx uint32) (pk []api.Node) {
	for chain, x := range modelSecrets(secret, idx) {
		pk = append(pk, modelChain(x, seed, idx, chain, 0, 15))
	}
	return pk
}

// modelSign is a signature's bytes.
func modelSign(k api.Key, secret api.Node, idx uint32, auth []api.Node, r api.Node, msg []byte) []byte {
	all, digits := []api.Node{r}, modelDigits(modelMsg(r, k.Root, idx, msg))
	for chain, x := range modelSecrets(secret, idx) {
		all = append(all, modelChain(x, k.Seed, idx, chain, 0, digits[chain]))
	}
	return put(idx, append(all, auth...)...)
}

// modelVerify reads the places of the bytes off the document.
func modelVerify(key, msg, sig []byte) api.Errno {
	height := map[string]int{"\x00\x00\x00\x01": 10, "\x00\x00\x00\x02": 16, "\x00\x00\x00\x03": 20}[string(key[:min(4, len(key))])]
	if len(key) != 68 || height == 0 {
		return api.ErrKey
	}
	if len(sig) != 2180+32*height || binary.BigEndian.Uint32(sig) >= 1<<height {
		return api.ErrSig
	}
	root, seed, idx := api.Node(key[4:36]), api.Node(key[36:]), binary.BigEndian.Uint32(sig)
	var nodes []api.Node
	for i := 4; i < len(sig); i += 32 {
		nodes = append(nodes, api.Node(sig[i:i+32]))
	}
	digits := modelDigits(modelMsg(nodes[0], root, idx, msg))
	var pk []api.Node
	for chain, d := range digits {
		pk = append(pk, modelChain(nodes[1+chain], seed, idx, chain, d, 15))
	}
	if modelTop(pk, seed, idx, nodes[68:]) != root {
		return api.ErrVerify
	}
	return api.OK
}

// signing is a key and what it signed, with what they were made of.
type signing struct {
	key, msg, sig []byte
	k             api.Key
	auth          []api.Node
	idx           uint32
}

// signed makes and signs, by from(1) as the secret.
func signed(t *testing.T, k kind, idx uint32, msg []byte) signing {
	t.Helper()
	auth := unlike(k.height)
	made, e := xmss.Make(k.oid, from(1), from(2), idx, auth)
	if e != api.OK {
		t.Fatalf("Make of oid %d at %d: %d", k.oid, idx, e)
	}
	key, e := xmss.PutKey(made)
	if e != api.OK {
		t.Fatalf("PutKey of oid %d: %d", k.oid, e)
	}
	sig, e := xmss.Sign(made, from(1), idx, auth, from(3), msg)
	if e != api.OK {
		t.Fatalf("Sign of oid %d at %d: %d", k.oid, idx, e)
	}
	return signing{key, msg, sig, made, auth, idx}
}

// spoilt is b with one bit turned over.
func spoilt(b []byte, at int, bit int) []byte {
	b = slices.Clone(b)
	b[at] ^= 1 << bit
	return b
}

func checkErr(t *testing.T, what string, got, want api.Errno) {
	t.Helper()
	if got != want {
		t.Errorf("%s: error %d, want %d", what, got, want)
	}
}

func checkBytes(t *testing.T, what string, got []byte, e api.Errno, want []byte) {
	t.Helper()
	if e != api.OK || !bytes.Equal(got, want) {
		t.Errorf("%s: error %d, %d bytes, %x, want %d, %x", what, e, len(got), got, len(want), want)
	}
}

// checkNoBytes asks for an error, and nothing beside it.
func checkNoBytes(t *testing.T, what string, got []byte, e, want api.Errno) {
	t.Helper()
	if e != want || got != nil {
		t.Errorf("%s: error %d, %d bytes, want %d and none", what, e, len(got), want)
	}
}

func checkKey(t *testing.T, what string, got api.Key, e api.Errno, want api.Key) {
	t.Helper()
	if e != api.OK || got != want {
		t.Errorf("%s: error %d, %x, want %x", what, e, got, want)
	}
}

func checkNoKey(t *testing.T, what string, got api.Key, e, want api.Errno) {
	t.Helper()
	if e != want || got != (api.Key{}) {
		t.Errorf("%s: error %d, %x, want %d and none", what, e, got, want)
	}
}

func checkSig(t *testing.T, what string, got api.Sig, e api.Errno, want api.Sig) {
	t.Helper()
	if e != api.OK || got.Idx != want.Idx || got.R != want.R || !slices.Equal(got.Ots, want.Ots) || !slices.Equal(got.Auth, want.Auth) {
		t.Errorf("%s: error %d, %x, want %x", what, e, got, want)
	}
}

func checkNoSig(t *testing.T, what string, got api.Sig, e, want api.Errno) {
	t.Helper()
	if e != want || got.Idx != 0 || got.R != (api.Node{}) || got.Ots != nil || got.Auth != nil {
		t.Errorf("%s: error %d, %x, want %d and none", what, e, got, want)
	}
}

func TestKnownAnswers(t *testing.T) { // P8.5: whatever the model says
	for _, k := range []struct {
		kind             int
		idx              uint32
		root, sig, empty string
	}{
		{0, 0x0, "f24f03353a0ef1b9341d4193f7991fe37abce66935e3f64cfaa37da2875826b4", "15dfe2923303e7957634c52ba62bfebc9cf61df42902421ce25033eeff70bdac", "e58780bf0b65eb0d7b47344e285074c9fe6955d55d549db3466f5b145e692675"},
		{0, 0x155, "0cfcdc539e79fdfc1d13981134c22c2e4fc581213f4f9fb9a96a21c58ea50139", "9fc450e15f46b594446f414d7e729145a62c75c28bd2b8417013e5d607c8bf9f", "3aa310d19d42e9c88c51751b78ba79f7e815c0a106d86492f5050efe47ddf1b2"},
		{0, 0x3ff, "a13e8e2b6a7eb64a0b7f7a99de8f191faf4afb86c6b7f88ce31333f3b06fc683", "45231457becb194d9493f61e4bd532e8ecebb78c2e80cd9b1b14dd72ba88f11e", "ad934b3767abda7daa86beed41e60b1308de56a1e5f5eb3b976ba117cec0a8a3"},
		{1, 0x1234, "e00086c999d01d9d1889a45919a971d143274cb9ffd3ded739a14806f4590c19", "8e9dbd4c0d3a102fe53013f5b309f9a47b3842a9a32138da145a5fb4ea0506af", "a1c6ae264c8b81704468603ef1e0ab8fe0b67ae74b322714a317dcc57a13e6ab"},
		{1, 0xffff, "bff42857649d56e7a76c77ce84c5c61a7d6101db3b709c21abd46208862cbdca", "1908fe890732a17115225a1420abaf807c2714ae292cdd792d4cca139c272491", "8a3e901373b2bc852cc8acbc50f330de05f7142402d82820059acfd665771cb4"},
		{2, 0xabcde, "44bf5f680bfd26119961f6eee4cb2e1d9ea5dd1936fa3bcdb8b0ab5578e8232f", "19b5b19309dfc34d00d0619858d9c4e11f3178edcef8dcb77453c6edc056713a", "a6bc232d782de49b33a6cb6d45f777fcc5031aede79815f7628b08bd640ab184"},
		{2, 0xfffff, "01f349d71af2df46ee7b28988ee459e47d2eb92e956ac0ec2e95defe0ed61c3a", "26bfbf6fe8a0138e39afbc1ef69f8727d396c3076e219d05e023dd628c7db1b1", "c1509dc99955be8df2d283dec6d98a13b13d32de7499dc922c858fc7b4665527"},
	} {
		what := fmt.Sprintf("oid %d at %d", kinds()[k.kind].oid, k.idx)
		s := signed(t, kinds()[k.kind], k.idx, []byte("the image"))
		if s.k.Root != node(t, k.root) {
			t.Errorf("Make of %s: root %x, want %s", what, s.k.Root, k.root)
		}
		if got := sha256.Sum256(s.sig); got != node(t, k.sig) {
			t.Errorf("Sign of %s: sum %x, want %s", what, got, k.sig)
		}
		other := api.Key{Oid: s.k.Oid, Root: from(7), Seed: from(2)}
		empty, e := xmss.Sign(other, from(1), k.idx, s.auth, from(3), nil)
		if got := sha256.Sum256(empty); e != api.OK || got != node(t, k.empty) {
			t.Errorf("Sign of %s by another root: error %d, sum %x, want %s", what, e, got, k.empty)
		}
	}
}

func TestHeightAndSize(t *testing.T) { // P8.1
	for _, k := range kinds() {
		if got, is := xmss.Height(k.oid); got != k.height || !is {
			t.Errorf("Height(%d) = %d, %v", k.oid, got, is)
		}
		if got, is := xmss.Size(k.oid); got != k.size || got != 4+32+67*32+32*k.height || !is {
			t.Errorf("Size(%d) = %d, %v", k.oid, got, is)
		}
	}
	oids := noOids()
	for oid := uint32(4); oid < 1000; oid++ {
		oids = append(oids, oid)
	}
	for _, oid := range oids {
		if got, is := xmss.Height(oid); got != 0 || is {
			t.Errorf("Height(%d) = %d, %v", oid, got, is)
		}
		if got, is := xmss.Size(oid); got != 0 || is {
			t.Errorf("Size(%d) = %d, %v", oid, got, is)
		}
	}
}

func TestKeyOf(t *testing.T) { // P8.2
	for _, k := range kinds() {
		for _, n := range [][2]api.Node{{from(1), from(101)}, {filled(0), filled(0xff)}, {filled(0xff), filled(0)}, {}} {
			b, want := put(k.oid, n[0], n[1]), api.Key{Oid: k.oid, Root: n[0], Seed: n[1]}
			got, e := xmss.KeyOf(b)
			checkKey(t, "KeyOf", got, e, want)
			back, e := xmss.PutKey(got)
			checkBytes(t, "PutKey of KeyOf", back, e, b)
			put, e := xmss.PutKey(want)
			checkBytes(t, "PutKey", put, e, b)
		}
	}
}

func TestKeyOfWrongBytes(t *testing.T) { // P8.2: all numbers of bytes but 68, and oids that are none
	for _, oid := range append(noOids(), 1, 2, 3) {
		whole := append(put(oid, from(1), from(101)), counted(200)...)
		for n := range len(whole) {
			if n == 68 && oid >= 1 && oid <= 3 {
				continue
			}
			got, e := xmss.KeyOf(whole[:n])
			checkNoKey(t, fmt.Sprintf("KeyOf of %d bytes of oid %d", n, oid), got, e, api.ErrKey)
		}
	}
	for _, b := range [][]byte{nil, {}, make([]byte, 67), make([]byte, 68), make([]byte, 69), bytes.Repeat([]byte{0xff}, 68), bytes.Repeat([]byte{1}, 68), make([]byte, 1<<16)} {
		got, e := xmss.KeyOf(b)
		checkNoKey(t, fmt.Sprintf("KeyOf of %d bytes", len(b)), got, e, api.ErrKey)
	}
}

func TestPutKeyOfWrongOids(t *testing.T) { // P8.2
	for _, oid := range noOids() {
		got, e := xmss.PutKey(api.Key{Oid: oid, Root: from(1), Seed: from(2)})
		checkNoBytes(t, fmt.Sprintf("PutKey of oid %d", oid), got, e, api.ErrKey)
	}
	got, e := xmss.PutKey(api.Key{})
	checkNoBytes(t, "PutKey of no key", got, e, api.ErrKey)
}

// sigOf is a signature of this height, all nodes unlike.
func (k kind) sigOf(idx uint32) api.Sig {
	l := unlike(68 + k.height)
	return api.Sig{Idx: idx, R: l[0], Ots: slices.Clone(l[1:68]), Auth: slices.Clone(l[68:])}
}

func TestSigOf(t *testing.T) { // P8.3: there and back, the greatest idx with it
	for _, k := range kinds() {
		for _, idx := range k.leaves() {
			b, want := put(idx, unlike(68+k.height)...), k.sigOf(idx)
			if len(b) != k.size {
				t.Fatal(len(b))
			}
			got, e := xmss.SigOf(b, k.oid)
			checkSig(t, fmt.Sprintf("SigOf of oid %d at %d", k.oid, idx), got, e, want)
			back, e := xmss.PutSig(got, k.oid)
			checkBytes(t, "PutSig of SigOf", back, e, b)
			laid, e := xmss.PutSig(want, k.oid)
			checkBytes(t, fmt.Sprintf("PutSig of oid %d at %d", k.oid, idx), laid, e, b)
		}
		zero, e := xmss.SigOf(make([]byte, k.size), k.oid)
		checkSig(t, "SigOf of bytes 0", zero, e, api.Sig{Ots: make([]api.Node, 67), Auth: make([]api.Node, k.height)})
	}
}

func TestSigOfWrongNumbers(t *testing.T) { // P8.3: each number of bytes but Size; those of another height too
	for _, k := range kinds() {
		whole := append(put(1, unlike(68+k.height)...), make([]byte, 3000)...)
		for n := range len(whole) {
			if n == k.size {
				continue
			}
			got, e := xmss.SigOf(whole[:n], k.oid)
			checkNoSig(t, fmt.Sprintf("SigOf of %d bytes of oid %d", n, k.oid), got, e, api.ErrSig)
		}
		for _, b := range [][]byte{nil, {}, whole[:k.size-1], whole[:k.size+1], whole[:k.size-32], whole[:k.size+32], make([]byte, 1<<16)} {
			got, e := xmss.SigOf(b, k.oid)
			checkNoSig(t, fmt.Sprintf("SigOf of %d bytes of oid %d", len(b), k.oid), got, e, api.ErrSig)
		}
	}
}

func TestSigOfNoLeaf(t *testing.T) { // P8.3: 2^height or more
	for _, k := range kinds() {
		for _, idx := range k.noLeaves() {
			what := fmt.Sprintf("of oid %d at %d", k.oid, idx)
			got, e := xmss.SigOf(put(idx, unlike(68+k.height)...), k.oid)
			checkNoSig(t, "SigOf "+what, got, e, api.ErrSig)
			b, e := xmss.PutSig(k.sigOf(idx), k.oid)
			checkNoBytes(t, "PutSig "+what, b, e, api.ErrSig)
		}
	}
}

func TestSigOfWrongOids(t *testing.T) { // P8.3, P4: ErrKey comes ahead, whatever else is wrong
	for _, oid := range noOids() {
		for _, k := range kinds() {
			for _, b := range [][]byte{nil, put(0), put(1, unlike(68+k.height)...), put(math.MaxUint32, unlike(68+k.height)...), put(1, unlike(69+k.height)...)} {
				got, e := xmss.SigOf(b, oid)
				checkNoSig(t, fmt.Sprintf("SigOf of oid %d", oid), got, e, api.ErrKey)
			}
			for _, s := range []api.Sig{{}, {Idx: math.MaxUint32}, k.sigOf(0), k.sigOf(math.MaxUint32)} {
				got, e := xmss.PutSig(s, oid)
				checkNoBytes(t, fmt.Sprintf("PutSig of oid %d", oid), got, e, api.ErrKey)
			}
		}
	}
}

func TestPutSigOfWrongNumbers(t *testing.T) { // P8.3: each number of nodes is asked by itself, and not their sum
	all := unlike(200)
	for _, k := range kinds() {
		for _, n := range []struct{ ots, auth int }{
			{0, 0}, {67, 0}, {0, k.height}, {66, k.height}, {68, k.height}, {67, k.height - 1}, {67, k.height + 1},
			{66, k.height + 1}, {68, k.height - 1}, {k.height, 67}, {67 + k.height, 0}, {0, 67 + k.height},
			{1, k.height}, {67, 1}, {67, 67}, {134, k.height}, {67, 2 * k.height}, {67, 26 - k.height}, {200, 200},
		} {
			for _, idx := range []uint32{0, 1, 1<<k.height - 1, 1 << k.height} {
				got, e := xmss.PutSig(api.Sig{Idx: idx, R: from(1), Ots: all[:n.ots], Auth: all[:n.auth]}, k.oid)
				checkNoBytes(t, fmt.Sprintf("PutSig of oid %d with %d and %d nodes", k.oid, n.ots, n.auth), got, e, api.ErrSig)
			}
		}
		for _, other := range kinds() {
			if other.oid != k.oid {
				got, e := xmss.PutSig(other.sigOf(1), k.oid)
				checkNoBytes(t, "PutSig of another height", got, e, api.ErrSig)
			}
		}
	}
}

func TestVerify(t *testing.T) { // P8.4, P8.6: each height, all manner of messages and leaves
	msgs := [][]byte{nil, {}, {0}, []byte("a"), counted(31), counted(32), counted(64), counted(1000), make([]byte, 70000)}
	for _, k := range kinds() {
		for i, idx := range k.leaves() {
			s := signed(t, k, idx, msgs[i%len(msgs)])
			what := fmt.Sprintf("Verify of oid %d at %d", k.oid, idx)
			checkErr(t, what, xmss.Verify(s.key, s.msg, s.sig), api.OK)
			checkErr(t, what+" by the model", modelVerify(s.key, s.msg, s.sig), api.OK)
		}
	}
}

func TestVerifyOfModels(t *testing.T) { // P8.4: what was made and signed without this program
	for _, k := range kinds() {
		for i, idx := range k.leaves() {
			secret, seed, r, msg := from(i), from(40+i), from(80+i), counted(100*i)
			auth := unlike(k.height)
			made := api.Key{Oid: k.oid, Root: modelTop(modelPk(secret, seed, idx), seed, idx, auth), Seed: seed}
			key := put(k.oid, made.Root, seed)
			sig := modelSign(made, secret, idx, auth, r, msg)
			checkErr(t, fmt.Sprintf("Verify of oid %d at %d", k.oid, idx), xmss.Verify(key, msg, sig), api.OK)
			checkErr(t, "Verify of another message", xmss.Verify(key, append(msg, 0), sig), api.ErrVerify)
		}
	}
}

func TestVerifyOfOtherRoots(t *testing.T) { // P8.4: the root that comes out must be the one that the message is hashed with
	for _, k := range kinds() {
		s, seed, idx := k.sigOf(6), from(70), uint32(6)
		m := prf.Msg(s.R, from(9), idx, []byte("x"))
		top := ltree.Root(ltree.Leaf(wots.Public(s.Ots, m, seed, idx), seed, idx), idx, s.Auth, seed)
		sig, _ := xmss.PutSig(s, k.oid)
		checkErr(t, "Verify of a root that the message wasn't hashed with", xmss.Verify(put(k.oid, top, seed), []byte("x"), sig), api.ErrVerify)
		checkErr(t, "Verify of a root that doesn't come out", xmss.Verify(put(k.oid, from(9), seed), []byte("x"), sig), api.ErrVerify)
	}
}

func TestVerifyOfSpoiltKeys(t *testing.T) { // P8.4: each byte of root and seed, and the oid
	for _, k := range kinds() {
		s := signed(t, k, 5, []byte("the image"))
		for at := 4; at < 68; at++ {
			if k.oid != 1 && at%8 != 0 {
				continue
			}
			checkErr(t, fmt.Sprintf("Verify with byte %d of the key spoilt", at), xmss.Verify(spoilt(s.key, at, at%8), s.msg, s.sig), api.ErrVerify)
		}
		for _, oid := range append(noOids(), 1, 2, 3) {
			want := modelVerify(put(oid, s.k.Root, s.k.Seed), s.msg, s.sig)
			checkErr(t, fmt.Sprintf("Verify with oid %d for %d", oid, k.oid), xmss.Verify(put(oid, s.k.Root, s.k.Seed), s.msg, s.sig), want)
		}
		checkErr(t, "Verify with root and seed turned round", xmss.Verify(put(k.oid, s.k.Seed, s.k.Root), s.msg, s.sig), api.ErrVerify)
		for n := range 140 {
			if n != 68 {
				checkErr(t, fmt.Sprintf("Verify with %d bytes of a key", n), xmss.Verify(append(slices.Clone(s.key), counted(100)...)[:n], s.msg, s.sig), api.ErrKey)
			}
		}
	}
}

func TestVerifyOfOtherMessages(t *testing.T) { // P8.4: each byte, one more, one less, none
	for _, k := range kinds() {
		s := signed(t, k, 5, []byte("the image"))
		for at := range s.msg {
			checkErr(t, "Verify with a byte of the message spoilt", xmss.Verify(s.key, spoilt(s.msg, at, at%8), s.sig), api.ErrVerify)
		}
		for _, msg := range [][]byte{nil, {}, s.msg[:8], s.msg[1:], []byte("the image\x00"), []byte("\x00the image"), []byte("the imagethe image")} {
			checkErr(t, "Verify of another message", xmss.Verify(s.key, msg, s.sig), api.ErrVerify)
		}
		empty := signed(t, k, 5, nil)
		checkErr(t, "Verify of an empty message", xmss.Verify(empty.key, []byte{}, empty.sig), api.OK)
		checkErr(t, "Verify of one byte 0", xmss.Verify(empty.key, []byte{0}, empty.sig), api.ErrVerify)
	}
}

func TestVerifyOfSpoiltSignatures(t *testing.T) { // P8.4: each bit of Idx, and each node
	for _, k := range kinds() {
		s := signed(t, k, 5, []byte("the image"))
		for bit := range 32 {
			want := api.ErrVerify
			if bit >= k.height {
				want = api.ErrSig
			}
			bad := spoilt(s.sig, 3-bit/8, bit%8)
			checkErr(t, fmt.Sprintf("Verify of oid %d with bit %d of Idx spoilt", k.oid, bit), xmss.Verify(s.key, s.msg, bad), want)
		}
		for i := range 68 + k.height {
			bad := spoilt(s.sig, 4+32*i+i%32, i%8)
			checkErr(t, fmt.Sprintf("Verify of oid %d with node %d spoilt", k.oid, i), xmss.Verify(s.key, s.msg, bad), api.ErrVerify)
		}
	}
}

func TestVerifyOfEachByte(t *testing.T) { // P8.4: each byte of one node of each part
	k := kinds()[0]
	s := signed(t, k, 1023, []byte("the image"))
	for _, i := range []int{0, 1, 67, 68, 77} {
		for at := range 32 {
			bad := spoilt(s.sig, 4+32*i+at, 7-at%8)
			checkErr(t, fmt.Sprintf("Verify with byte %d of node %d spoilt", at, i), xmss.Verify(s.key, s.msg, bad), api.ErrVerify)
		}
	}
}

func TestVerifyOfMovedNodes(t *testing.T) { // P8.4: each node in its place
	for _, k := range kinds() {
		s := signed(t, k, 5, []byte("the image"))
		for _, two := range [][2]int{{0, 1}, {1, 2}, {66, 67}, {67, 68}, {68, 69}, {66 + k.height, 67 + k.height}} {
			bad := slices.Clone(s.sig)
			copy(bad[4+32*two[0]:], s.sig[4+32*two[1]:][:32])
			copy(bad[4+32*two[1]:], s.sig[4+32*two[0]:][:32])
			checkErr(t, fmt.Sprintf("Verify with nodes %d and %d turned round", two[0], two[1]), xmss.Verify(s.key, s.msg, bad), api.ErrVerify)
		}
	}
}

func TestVerifyOfWrongNumbers(t *testing.T) { // P8.4: a signature cut off, or with bytes behind it
	for _, k := range kinds() {
		s := signed(t, k, 5, []byte("the image"))
		more := append(slices.Clone(s.sig), make([]byte, 400)...)
		for n := 0; n <= len(more); n++ {
			if n != k.size {
				checkErr(t, fmt.Sprintf("Verify of %d bytes of oid %d", n, k.oid), xmss.Verify(s.key, s.msg, more[:n]), api.ErrSig)
			}
		}
		checkErr(t, "Verify of no signature", xmss.Verify(s.key, s.msg, nil), api.ErrSig)
		checkErr(t, "Verify of bytes 0", xmss.Verify(s.key, s.msg, make([]byte, k.size)), api.ErrVerify)
		checkErr(t, "Verify of bytes 0 by a key of bytes 0", xmss.Verify(put(k.oid, filled(0), filled(0)), nil, make([]byte, k.size)), api.ErrVerify)
	}
}

func TestVerifyFirstError(t *testing.T) { // P8.4, P4: the key's error, then the signature's, then that it doesn't fit
	s := signed(t, kinds()[0], 5, []byte("the image"))
	badKey, badIdx, short := spoilt(s.key, 3, 2), spoilt(s.sig, 2, 2), s.sig[:2499]
	for _, sig := range [][]byte{nil, s.sig, badIdx, short, spoilt(s.sig, 4, 0)} {
		checkErr(t, "Verify with a bad key", xmss.Verify(badKey, s.msg, sig), api.ErrKey)
		checkErr(t, "Verify without a key", xmss.Verify(nil, s.msg, sig), api.ErrKey)
		checkErr(t, "Verify with 67 bytes of a key", xmss.Verify(s.key[:67], nil, sig), api.ErrKey)
	}
	for _, sig := range [][]byte{nil, badIdx, short} {
		checkErr(t, "Verify with a bad signature", xmss.Verify(s.key, nil, sig), api.ErrSig)
		checkErr(t, "Verify with a bad signature by another root", xmss.Verify(spoilt(s.key, 4, 0), s.msg, sig), api.ErrSig)
	}
}

func TestMake(t *testing.T) { // P8.5: least and greatest idx, and what the root hangs on
	seen := map[api.Node]bool{}
	for _, k := range kinds() {
		auth := unlike(k.height)
		for i, idx := range k.leaves() {
			for _, n := range [][2]api.Node{{from(1), from(2)}, {from(2), from(1)}, {filled(byte(i)), filled(0xff)}} {
				want := api.Key{Oid: k.oid, Root: modelTop(modelPk(n[0], n[1], idx), n[1], idx, auth), Seed: n[1]}
				got, e := xmss.Make(k.oid, n[0], n[1], idx, auth)
				checkKey(t, fmt.Sprintf("Make of oid %d at %d", k.oid, idx), got, e, want)
				if seen[got.Root] {
					t.Errorf("two keys that are apart have the root %x", got.Root)
				}
				seen[got.Root] = true
			}
		}
		leaf := ltree.Leaf(wots.Key(from(1), from(2), 9), from(2), 9)
		got, e := xmss.Make(k.oid, from(1), from(2), 9, auth)
		checkKey(t, "Make in the words of the layers below", got, e, api.Key{Oid: k.oid, Root: ltree.Root(leaf, 9, auth, from(2)), Seed: from(2)})
	}
}

func TestMakeOfWrongNumbers(t *testing.T) { // P8.5: oid, then neighbours and idx
	all := unlike(100)
	for _, k := range kinds() {
		for n := range 100 {
			if n != k.height {
				got, e := xmss.Make(k.oid, from(1), from(2), 0, all[:n])
				checkNoKey(t, fmt.Sprintf("Make of oid %d with %d neighbours", k.oid, n), got, e, api.ErrSig)
			}
		}
		for _, idx := range k.noLeaves() {
			got, e := xmss.Make(k.oid, from(1), from(2), idx, all[:k.height])
			checkNoKey(t, fmt.Sprintf("Make of oid %d at %d", k.oid, idx), got, e, api.ErrSig)
			got, e = xmss.Make(k.oid, from(1), from(2), idx, nil)
			checkNoKey(t, "Make of no leaf and no neighbours", got, e, api.ErrSig)
		}
	}
	for _, oid := range noOids() {
		for _, n := range []int{0, 10, 16, 20, 21} {
			for _, idx := range []uint32{0, math.MaxUint32} {
				got, e := xmss.Make(oid, from(1), from(2), idx, all[:n])
				checkNoKey(t, fmt.Sprintf("Make of oid %d", oid), got, e, api.ErrKey)
			}
		}
	}
}

func TestSign(t *testing.T) { // P8.5: by the model, and by any root: none is looked at
	for _, k := range kinds() {
		auth := unlike(k.height)
		for i, idx := range k.leaves() {
			key := api.Key{Oid: k.oid, Root: from(50 + i), Seed: from(90 + i)}
			secret, r, msg := from(i), from(130+i), counted(77*i)
			got, e := xmss.Sign(key, secret, idx, auth, r, msg)
			checkBytes(t, fmt.Sprintf("Sign of oid %d at %d", k.oid, idx), got, e, modelSign(key, secret, idx, auth, r, msg))
			s, e := xmss.SigOf(got, k.oid)
			ots := wots.Sign(secret, prf.Msg(r, key.Root, idx, msg), key.Seed, idx)
			checkSig(t, "SigOf of Sign", s, e, api.Sig{Idx: idx, R: r, Ots: ots, Auth: auth})
		}
	}
}

func TestSignOfWrongNumbers(t *testing.T) { // P8.5: errors as PutSig's
	all := unlike(100)
	for _, k := range kinds() {
		key := api.Key{Oid: k.oid, Root: from(5), Seed: from(6)}
		for _, n := range []int{0, 1, k.height - 1, k.height + 1, 10, 16, 20, 21, 32, 67, 100} {
			if n != k.height {
				got, e := xmss.Sign(key, from(1), 0, all[:n], from(3), nil)
				checkNoBytes(t, fmt.Sprintf("Sign of oid %d with %d neighbours", k.oid, n), got, e, api.ErrSig)
			}
		}
		for _, idx := range k.noLeaves() {
			got, e := xmss.Sign(key, from(1), idx, all[:k.height], from(3), nil)
			checkNoBytes(t, fmt.Sprintf("Sign of oid %d at %d", k.oid, idx), got, e, api.ErrSig)
		}
	}
	for _, oid := range noOids() {
		for _, n := range []int{0, 10, 21} {
			got, e := xmss.Sign(api.Key{Oid: oid, Root: from(5)}, from(1), math.MaxUint32, all[:n], from(3), nil)
			checkNoBytes(t, fmt.Sprintf("Sign of oid %d", oid), got, e, api.ErrKey)
		}
	}
	got, e := xmss.Sign(api.Key{}, api.Node{}, 0, nil, api.Node{}, nil)
	checkNoBytes(t, "Sign of no key", got, e, api.ErrKey)
}

func TestSigned(t *testing.T) { // P8.6: it takes the same secret, idx and auth, and those alone
	for i, k := range kinds() {
		auth, idx, msg := unlike(k.height), uint32(300+i), []byte("a message")
		key, _ := xmss.Make(k.oid, from(1), from(2), idx, auth)
		b, _ := xmss.PutKey(key)
		for _, r := range append(unlike(3), filled(0), filled(0xff)) {
			sig, e := xmss.Sign(key, from(1), idx, auth, r, msg)
			checkErr(t, "Sign", e, api.OK)
			checkErr(t, "Verify of Sign", xmss.Verify(b, msg, sig), api.OK)
		}
		other := slices.Clone(auth)
		other[k.height-1][31] ^= 1
		secret, _ := xmss.Sign(key, from(4), idx, auth, from(3), msg)
		leaf, _ := xmss.Sign(key, from(1), idx^1, auth, from(3), msg)
		way, _ := xmss.Sign(key, from(1), idx, other, from(3), msg)
		seed, _ := xmss.Sign(api.Key{Oid: k.oid, Root: key.Root, Seed: from(9)}, from(1), idx, auth, from(3), msg)
		root, _ := xmss.Sign(api.Key{Oid: k.oid, Root: from(9), Seed: key.Seed}, from(1), idx, auth, from(3), msg)
		for what, sig := range map[string][]byte{"secret": secret, "idx": leaf, "auth": way, "seed": seed, "root": root} {
			checkErr(t, "Verify of Sign by another "+what, xmss.Verify(b, msg, sig), api.ErrVerify)
		}
	}
}

func TestManyBySameKey(t *testing.T) { // P8.5, P8.6: a whole tree has one key, whichever leaf makes it
	var leaves []api.Node
	for idx := range uint32(1 << 10) {
		leaves = append(leaves, modelLeaf(modelPk(from(1), from(2), idx), from(2), idx, 7, 0))
	}
	want := api.Key{Oid: 1, Root: node(t, "2e5dd1c2b8ded604d457bd95368ccd205bbadda4c24f4ae305df4ff4eeb8bfbd"), Seed: from(2)}
	key := put(1, want.Root, want.Seed)
	var last []byte
	for _, idx := range kinds()[0].leaves() {
		auth, _, _ := ltree.Path(leaves, idx, from(2))
		got, e := xmss.Make(1, from(1), from(2), idx, auth)
		checkKey(t, fmt.Sprintf("Make at %d", idx), got, e, want)
		msg := counted(int(idx))
		sig, e := xmss.Sign(got, from(1), idx, auth, from(int(idx)), msg)
		checkErr(t, "Sign", e, api.OK)
		checkErr(t, fmt.Sprintf("Verify at %d", idx), xmss.Verify(key, msg, sig), api.OK)
		checkErr(t, "Verify of another leaf's signature", xmss.Verify(key, msg, spoilt(sig, 3, 0)), api.ErrVerify)
		if last != nil {
			checkErr(t, "Verify of what another leaf signed", xmss.Verify(key, msg, last), api.ErrVerify)
		}
		last = sig
	}
}

func TestGivenStays(t *testing.T) { // P2: what is given, and what lies behind its length
	for _, k := range kinds() {
		s := signed(t, k, 5, []byte("the image"))
		bytesOf := [][]byte{s.key, s.msg, s.sig}
		var given, was [3][]byte
		for i, b := range bytesOf {
			whole := append(slices.Clone(b), counted(200)...)
			given[i], was[i] = whole, slices.Clone(whole)
		}
		key, msg, sig := given[0][:68], given[1][:9], given[2][:k.size]
		nodes := unlike(200)
		ots, auth := slices.Clone(nodes)[:67], slices.Clone(nodes)[:k.height]
		checkErr(t, "Verify of bytes with others behind them", xmss.Verify(key, msg, sig), api.OK)
		read, e := xmss.KeyOf(key)
		checkKey(t, "KeyOf", read, e, s.k)
		laid, e := xmss.PutSig(api.Sig{Idx: 5, R: from(3), Ots: ots, Auth: auth}, k.oid)
		checkBytes(t, "PutSig", laid, e, put(5, slices.Concat([]api.Node{from(3)}, nodes[:67], nodes[:k.height])...))
		made, e := xmss.Make(k.oid, from(1), from(2), 5, auth)
		checkKey(t, "Make", made, e, s.k)
		again, e := xmss.Sign(made, from(1), 5, auth, from(3), msg)
		checkBytes(t, "Sign", again, e, s.sig)
		taken, e := xmss.SigOf(sig, k.oid)
		for _, l := range [][]api.Node{taken.Ots, taken.Auth} {
			l = l[:cap(l)]
			for i := range l {
				l[i] = filled(0xee)
			}
		}
		for _, b := range [][]byte{laid, again} {
			b = b[:cap(b)]
			for i := range b {
				b[i] = 0xee
			}
		}
		for i := range given {
			if !bytes.Equal(given[i], was[i]) {
				t.Fatal("bytes that are given are changed, or share memory with an answer")
			}
		}
		if e != api.OK || !slices.Equal(ots[:200], nodes) || !slices.Equal(auth[:200], nodes) {
			t.Fatal("nodes that are given are changed, or share memory with an answer")
		}
	}
}

func TestAnswersAreApart(t *testing.T) { // P2, P3: each answer, and each list of it, has memory of its own
	for _, k := range kinds() {
		b, want := put(5, unlike(68+k.height)...), k.sigOf(5)
		first, _ := xmss.SigOf(b, k.oid)
		again, e := xmss.SigOf(b, k.oid)
		more := append(first.Ots, filled(0xee))
		more[0] = filled(0xee)
		whole := first.Ots[:cap(first.Ots)]
		for i := range whole {
			whole[i] = filled(0xee)
		}
		if !slices.Equal(first.Auth, want.Auth) {
			t.Error("Ots and Auth share memory")
		}
		checkSig(t, "SigOf again", again, e, want)
		for what, call := range map[string]func() ([]byte, api.Errno){
			"PutKey": func() ([]byte, api.Errno) {
				return xmss.PutKey(api.Key{Oid: k.oid, Root: from(1), Seed: from(2)})
			},
			"PutSig": func() ([]byte, api.Errno) { return xmss.PutSig(want, k.oid) },
			"Sign": func() ([]byte, api.Errno) {
				return xmss.Sign(api.Key{Oid: k.oid}, from(1), 5, want.Auth, from(3), nil)
			},
		} {
			one, _ := call()
			kept := slices.Clone(one)
			two, e := call()
			for i := range one {
				one[i] = 0xee
			}
			checkBytes(t, what+" again", two, e, kept)
			three, e := call()
			checkBytes(t, what+" once more", three, e, kept)
		}
	}
}

func TestNilAndEmpty(t *testing.T) { // P3: a nil list is an empty one
	for _, k := range kinds() {
		key := api.Key{Oid: k.oid, Root: from(5), Seed: from(6)}
		a, _ := xmss.Sign(key, from(1), 5, unlike(k.height), from(3), nil)
		b, e := xmss.Sign(key, from(1), 5, unlike(k.height), from(3), []byte{})
		checkBytes(t, "Sign of an empty message", b, e, a)
		got, e := xmss.PutSig(api.Sig{Ots: []api.Node{}, Auth: []api.Node{}}, k.oid)
		checkNoBytes(t, "PutSig of empty lists", got, e, api.ErrSig)
		got, e = xmss.PutSig(api.Sig{}, k.oid)
		checkNoBytes(t, "PutSig of nil lists", got, e, api.ErrSig)
	}
}

func TestAnyBytes(t *testing.T) { // P1: none panics, and each answers as the model does
	var all [][]byte
	for _, n := range []int{0, 1, 3, 4, 5, 35, 36, 67, 68, 69, 2499, 2500, 2501, 2691, 2692, 2693, 2819, 2820, 2821, 5000} {
		all = append(all, make([]byte, n), bytes.Repeat([]byte{0xff}, n), counted(n))
		for _, k := range kinds() {
			all = append(all, append(put(k.oid), counted(n)...)[:n])
		}
	}
	for _, key := range all {
		for _, sig := range all {
			checkErr(t, fmt.Sprintf("Verify of %d and %d bytes", len(key), len(sig)), xmss.Verify(key, sig, sig), modelVerify(key, sig, sig))
		}
	}
}
