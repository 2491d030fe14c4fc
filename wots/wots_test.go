package wots_test

import (
	"bytes"
	"crypto/sha256"
	"encoding/binary"
	"encoding/hex"
	"fmt"
	"math"
	"slices"
	"strconv"
	"testing"

	"portreeve/adrs"
	"portreeve/api"
	"portreeve/prf"
	"portreeve/wots"
)

// node reads 32 bytes that were worked out apart from this program.
func node(t *testing.T, text string) api.Node {
	t.Helper()
	b, err := hex.DecodeString(text)
	if err != nil || len(b) != 32 {
		t.Fatal(text)
	}
	return api.Node(b)
}

// from are the 32 bytes that count on from n.
func from(n int) api.Node {
	var out api.Node
	for i := range out {
		out[i] = byte(n + i)
	}
	return out
}

// filled are 32 times the same byte.
func filled(b byte) api.Node { return api.Node(bytes.Repeat([]byte{b}, 32)) }

// messages have the least and the greatest check sum, half bytes that are unlike, and some that no rule is seen in.
func messages() []api.Node {
	l := []api.Node{filled(0), filled(0xff), filled(0x0f), filled(0xf0), filled(0x12), from(1), from(64), from(200)}
	for i := range 8 {
		l = append(l, sha256.Sum256([]byte{byte(i)}))
	}
	return l
}

// indices are those at which a byte of an idx, or its sign, turns over.
func indices() []uint32 {
	return []uint32{0, 1, 255, 256, 1<<10 - 1, 1 << 16, 0x01020304, 1<<31 - 1, 1 << 31, math.MaxUint32 - 1, math.MaxUint32}
}

// noChains are to either side of 0 to 66, and such as are 0, 66 or the like if bits are cut off.
func noChains() []int {
	return []int{
		-1, -2, -66, -67, -256, 67, 68, 127, 128, 256, 256 + 66, 1 << 16, 1<<16 + 66, 1 << 30,
		math.MinInt, math.MinInt + 1, math.MinInt + 66, math.MinInt32, math.MaxInt, math.MaxInt32, math.MaxInt - math.MaxUint32,
	}
}

// place is an address' bytes as RFC 8391, 2.5 lays those of one-time keys.
func place(idx uint32, chain, hash, mask int) []byte {
	b := make([]byte, 16)
	for _, w := range []uint32{idx, uint32(chain), uint32(hash), uint32(mask)} {
		b = binary.BigEndian.AppendUint32(b, w)
	}
	return b
}

// keyed is the hash of RFC 8391, 5.1, by the library.
func keyed(kind byte, key api.Node, b []byte) api.Node {
	whole := append(make([]byte, 31), kind)
	return sha256.Sum256(append(append(whole, key[:]...), b...))
}

// modelChain goes by the library, and by sums, so that it is for numbers that may be alone.
func modelChain(x api.Node, from, steps int, seed api.Node, idx uint32, chain int) api.Node {
	for i := from; i < from+steps; i++ {
		key, mask := keyed(3, seed, place(idx, chain, i, 0)), keyed(3, seed, place(idx, chain, i, 1))
		for j := range x {
			x[j] ^= mask[j]
		}
		x = keyed(0, key, x[:])
	}
	return x
}

// modelDigits reads the digits off texts of base 16.
func modelDigits(m api.Node) [67]int {
	text, sum := hex.EncodeToString(m[:]), 0
	for _, r := range text {
		d, _ := strconv.ParseInt(string(r), 16, 0)
		sum += 15 - int(d)
	}
	text += fmt.Sprintf("%03x", sum)
	var all [67]int
	for i, r := range text {
		d, _ := strconv.ParseInt(string(r), 16, 0)
		all[i] = int(d)
	}
	return all
}

func modelSecret(secret api.Node, idx uint32, chain int) api.Node {
	return keyed(3, secret, place(idx, chain, 0, 0))
}

// modelGrown are the chains from their secrets on, up to these digits.
func modelGrown(secret, seed api.Node, idx uint32, digits [67]int) []api.Node {
	var all []api.Node
	for chain, d := range digits {
		all = append(all, modelChain(modelSecret(secret, idx, chain), 0, d, seed, idx, chain))
	}
	return all
}

// joined is one sum of many nodes.
func joined(l []api.Node) api.Node {
	var b []byte
	for _, n := range l {
		b = append(b, n[:]...)
	}
	return sha256.Sum256(b)
}

// unlike are n nodes, no two of them the same.
func unlike(n int) []api.Node {
	var l []api.Node
	for i := range n {
		l = append(l, sha256.Sum256(binary.BigEndian.AppendUint32(nil, uint32(i))))
	}
	return l
}

func check(t *testing.T, what string, got, want api.Node) {
	t.Helper()
	if got != want {
		t.Errorf("%s = %x, want %x", what, got, want)
	}
}

func checkAll(t *testing.T, what string, got, want []api.Node) {
	t.Helper()
	if !slices.Equal(got, want) {
		t.Errorf("%s: %d nodes, %x, want %d, %x", what, len(got), got, len(want), want)
	}
}

func TestKnownAnswers(t *testing.T) { // P6.1 to P6.4: whatever the model says
	a, b, c := from(0), from(32), from(64)
	for _, k := range []struct {
		what string
		got  api.Node
		want string
	}{
		{"Chain of one step", wots.Chain(a, 0, 1, b, 0x01020304, 5), "4f4225d569d76cf833fc8fb181928160e613907fc9bc6b94f3c238b2678e9108"},
		{"Chain of 15 steps", wots.Chain(a, 0, 15, b, math.MaxUint32, 66), "d8d888ae0ba8abb26ca50f10deaf7701054a7681d94e09bdeaf7999df9390aa8"},
		{"Chain from 7 on", wots.Chain(a, 7, 8, b, 1, 0), "2d23e0e2bca4ff259a72d2eafb9f1f30336addbaa3e850ce5bb17208f8afe47d"},
		{"Secret", wots.Secret(a, 0x01020304, 66), "add9620cbd8b13941a1e6a042850c8b6d137049168bd88a045f993c51f26af39"},
		{"Key", joined(wots.Key(a, b, 7)), "bbc9216a510f719cf3f3dd4d2533f3f6d3f2983d27d9b552b37a3f419cf9684b"},
		{"Sign", joined(wots.Sign(a, c, b, 7)), "abdcec79a2f84c7ed22af179d0f5a9ac4ad471d4eef1e52f73888a68c698801b"},
		{"Public", joined(wots.Public(wots.Sign(a, c, b, 7), c, b, 7)), "bbc9216a510f719cf3f3dd4d2533f3f6d3f2983d27d9b552b37a3f419cf9684b"},
	} {
		check(t, k.what, k.got, node(t, k.want))
	}
}

func TestDigitsOfExamples(t *testing.T) { // P6.1: those of the chapter, and one with all half bytes
	var none, most, count [67]int
	none[64], none[65], none[66] = 3, 12, 0
	for i := range 64 {
		most[i], count[i] = 15, i%16
	}
	count[64], count[65], count[66] = 1, 14, 0 // four times 120 are 480
	for _, k := range []struct {
		m    api.Node
		want [67]int
	}{
		{filled(0), none},
		{filled(0xff), most},
		{api.Node(bytes.Repeat([]byte{0x01, 0x23, 0x45, 0x67, 0x89, 0xab, 0xcd, 0xef}, 4)), count},
	} {
		if got := wots.Digits(k.m); got != k.want {
			t.Errorf("Digits(%x) = %v, want %v", k.m, got, k.want)
		}
	}
}

func TestDigitsOfEachByte(t *testing.T) { // P6.1: all bytes, each in all places, and so many a check sum
	for i := range 32 {
		for b := range 256 {
			for _, m := range []api.Node{filled(0), filled(0xff), from(b)} {
				m[i] = byte(b)
				got := wots.Digits(m)
				if got[2*i] != b/16 || got[2*i+1] != b%16 || got != modelDigits(m) {
					t.Fatalf("Digits(%x) = %v", m, got)
				}
			}
		}
	}
}

func TestDigitsOfEachSum(t *testing.T) { // P6.1: the check sum from 960 down to 0
	for sum := range 961 {
		var m api.Node
		for i, rest := 0, 960-sum; i < 64 && rest > 0; i++ {
			d := min(rest, 15)
			m[i/2] |= byte(d << (4 - i%2*4))
			rest -= d
		}
		got := wots.Digits(m)
		if got[64]<<8|got[65]<<4|got[66] != sum || got != modelDigits(m) {
			t.Fatalf("Digits(%x) = %v, want a check sum of %d", m, got, sum)
		}
	}
}

func TestChain(t *testing.T) { // P6.2: each from and steps that may be
	x, seed := from(3), from(100)
	for from := range 16 {
		for steps := range 16 - from {
			for _, chain := range []int{0, 1, 63, 64, 66} {
				want := modelChain(x, from, steps, seed, 0x01020304, chain)
				if got := wots.Chain(x, from, steps, seed, 0x01020304, chain); got != want {
					t.Errorf("Chain from %d, %d steps, of chain %d = %x, want %x", from, steps, chain, got, want)
				}
			}
		}
	}
}

func TestChainIsOfPrfs(t *testing.T) { // P6.2: in the words of the layers below
	x, seed := from(9), from(70)
	a := adrs.Ots(6, 5, 4)
	want := prf.F(prf.Prf(seed, adrs.Masked(a, 0)), prf.Xor(x, prf.Prf(seed, adrs.Masked(a, 1))))
	check(t, "Chain of one step", wots.Chain(x, 4, 1, seed, 6, 5), want)
}

func TestChainOfNoSteps(t *testing.T) { // P6.2: x as it is, at the end too
	for _, x := range messages() {
		for from := range 16 {
			check(t, "Chain of no steps", wots.Chain(x, from, 0, filled(7), 1, 2), x)
		}
	}
}

func TestChainOfAllPlaces(t *testing.T) { // P6.2: each chain, each idx, each seed
	x := from(3)
	seen := map[api.Node]bool{}
	put := func(n api.Node) {
		if seen[n] {
			t.Errorf("two chains that are apart come to %x", n)
		}
		seen[n] = true
	}
	for chain := range 67 {
		got := wots.Chain(x, 0, 15, from(100), 8, chain)
		check(t, "Chain of chain "+strconv.Itoa(chain), got, modelChain(x, 0, 15, from(100), 8, chain))
		put(got)
	}
	for _, idx := range indices() {
		got := wots.Chain(x, 14, 1, from(100), idx, 66)
		check(t, "Chain of an idx", got, modelChain(x, 14, 1, from(100), idx, 66))
		put(got)
	}
	for _, n := range messages() {
		check(t, "Chain of a seed", wots.Chain(x, 2, 3, n, 1, 1), modelChain(x, 2, 3, n, 1, 1))
		check(t, "Chain of an x", wots.Chain(n, 2, 3, x, 1, 1), modelChain(n, 2, 3, x, 1, 1))
	}
}

func TestChainGoesOn(t *testing.T) { // P6.2: two stretches behind one another are one
	x, seed := from(1), from(2)
	whole := wots.Chain(x, 0, 15, seed, 3, 4)
	for i := range 16 {
		check(t, "Chain in two stretches", wots.Chain(wots.Chain(x, 0, i, seed, 3, 4), i, 15-i, seed, 3, 4), whole)
	}
}

func TestChainOfWrongSteps(t *testing.T) { // P6.2: from and steps below 0, a sum above 15, sums that would wrap
	for _, k := range []struct{ from, steps int }{
		{-1, 0}, {-1, 1}, {-1, 15}, {-1, 16}, {-15, 15}, {-15, 30}, {-16, 16}, {-2, -2},
		{0, -1}, {1, -1}, {15, -1}, {15, -15}, {30, -15}, {16, -1}, {16, -16},
		{0, 16}, {1, 15}, {15, 1}, {8, 8}, {7, 9}, {16, 0}, {17, 0}, {15, 15}, {16, 16},
		{math.MinInt, 0}, {0, math.MinInt}, {math.MinInt, math.MinInt}, {math.MinInt, 15}, {15, math.MinInt},
		{math.MaxInt, 0}, {0, math.MaxInt}, {math.MaxInt, 1}, {1, math.MaxInt}, {15, math.MaxInt}, {math.MaxInt, 15},
		{math.MaxInt, math.MaxInt}, {math.MaxInt, math.MinInt}, {math.MinInt, math.MaxInt}, {math.MaxInt, -math.MaxInt},
		{-math.MaxInt, math.MaxInt}, {math.MaxInt - 1, 2 - math.MaxInt}, {math.MaxInt/2 + 1, math.MaxInt/2 + 1},
		{math.MaxInt32, math.MaxInt32}, {math.MaxInt32, 1}, {math.MinInt32, math.MinInt32}, {256, 0}, {0, 256}, {1 << 16, 1 << 16},
	} {
		for _, chain := range []int{0, 66} {
			if got := wots.Chain(from(1), k.from, k.steps, from(2), 3, chain); got != (api.Node{}) {
				t.Errorf("Chain from %d, %d steps = %x", k.from, k.steps, got)
			}
		}
	}
}

func TestChainOfWrongChains(t *testing.T) { // P6.2
	for _, chain := range noChains() {
		for _, steps := range []int{0, 1, 15} {
			if got := wots.Chain(from(1), 0, steps, from(2), 3, chain); got != (api.Node{}) {
				t.Errorf("Chain of chain %d, %d steps = %x", chain, steps, got)
			}
		}
	}
}

func TestPublic(t *testing.T) { // P6.3: any nodes, signed or not
	sig, seed := unlike(67), from(100)
	for _, m := range messages() {
		for _, idx := range []uint32{0, 1, 0x01020304, math.MaxUint32} {
			var want []api.Node
			for chain, d := range modelDigits(m) {
				want = append(want, modelChain(sig[chain], d, 15-d, seed, idx, chain))
			}
			checkAll(t, "Public", wots.Public(sig, m, seed, idx), want)
		}
	}
}

func TestPublicAtTheEnd(t *testing.T) { // P6.3: where a digit is 15 the node stays as it is
	sig := unlike(67)
	got := wots.Public(sig, filled(0xff), from(2), 3)
	checkAll(t, "Public of the greatest digits", got[:64], sig[:64])
	for chain := 64; chain < 67; chain++ {
		check(t, "Public of the check sum's least digits", got[chain], modelChain(sig[chain], 0, 15, from(2), 3, chain))
	}
}

func TestPublicOfWrongNumbers(t *testing.T) { // P6.3: nil, and not a list of none
	many := unlike(200)
	for _, n := range []int{0, 1, 2, 63, 64, 65, 66, 68, 69, 133, 134, 135, 200} {
		if got := wots.Public(many[:n], from(1), from(2), 3); got != nil {
			t.Errorf("Public of %d nodes: %d", n, len(got))
		}
	}
	if wots.Public(nil, from(1), from(2), 3) != nil || wots.Public([]api.Node{}, from(1), from(2), 3) != nil {
		t.Error("Public of no nodes")
	}
	if got := wots.Public(many[:67], from(1), from(2), 3); len(got) != 67 {
		t.Errorf("Public of 67 nodes: %d", len(got))
	}
}

func TestSecret(t *testing.T) { // P6.4
	seen := map[api.Node]bool{}
	for _, secret := range messages() {
		for _, idx := range indices() {
			for chain := range 67 {
				got := wots.Secret(secret, idx, chain)
				if got != modelSecret(secret, idx, chain) || got != prf.Prf(secret, adrs.Ots(idx, uint32(chain), 0)) || seen[got] {
					t.Errorf("Secret(%x, %d, %d) = %x", secret, idx, chain, got)
				}
				seen[got] = true
			}
		}
	}
}

func TestSecretOfWrongChains(t *testing.T) { // P6.4
	for _, chain := range noChains() {
		for _, idx := range indices() {
			check(t, "Secret of chain "+strconv.Itoa(chain), wots.Secret(from(1), idx, chain), api.Node{})
		}
	}
}

func TestKey(t *testing.T) { // P6.4
	var ends [67]int
	for i := range ends {
		ends[i] = 15
	}
	for _, idx := range indices() {
		checkAll(t, "Key", wots.Key(from(1), from(2), idx), modelGrown(from(1), from(2), idx, ends))
	}
	for _, n := range messages() {
		checkAll(t, "Key of a secret", wots.Key(n, from(2), 5), modelGrown(n, from(2), 5, ends))
		checkAll(t, "Key of a seed", wots.Key(from(2), n, 5), modelGrown(from(2), n, 5, ends))
	}
}

func TestSign(t *testing.T) { // P6.4
	for _, m := range messages() {
		for _, idx := range []uint32{0, 1, 0x01020304, math.MaxUint32} {
			want := modelGrown(from(1), from(2), idx, modelDigits(m))
			checkAll(t, "Sign", wots.Sign(from(1), m, from(2), idx), want)
		}
	}
}

func TestSignAtBothEnds(t *testing.T) { // P6.4: of digits 0 the secrets themselves, of digits 15 the key
	none, most := wots.Sign(from(1), filled(0), from(2), 3), wots.Sign(from(1), filled(0xff), from(2), 3)
	for chain := range 64 {
		check(t, "Sign of digit 0", none[chain], wots.Secret(from(1), 3, chain))
	}
	checkAll(t, "Sign of digits 15", most[:64], wots.Key(from(1), from(2), 3)[:64])
	check(t, "Sign of the check sum's digit 0", most[66], wots.Secret(from(1), 3, 66))
}

func TestThereAndBack(t *testing.T) { // P6.5
	for i, m := range messages() {
		secret, seed := from(i), from(50+i)
		for _, idx := range []uint32{0, uint32(i), math.MaxUint32} {
			sig := wots.Sign(secret, m, seed, idx)
			if len(sig) != 67 {
				t.Fatalf("Sign: %d nodes", len(sig))
			}
			checkAll(t, "Public of Sign", wots.Public(sig, m, seed, idx), wots.Key(secret, seed, idx))
		}
	}
}

func TestNotBack(t *testing.T) { // P6.5: the same seed, idx and m are needed, and each node
	m, seed := from(64), from(2)
	sig, key := wots.Sign(from(1), m, seed, 7), wots.Key(from(1), seed, 7)
	other := m
	other[31] ^= 1
	for what, got := range map[string][]api.Node{
		"another m":    wots.Public(sig, other, seed, 7),
		"another seed": wots.Public(sig, m, from(3), 7),
		"another idx":  wots.Public(sig, m, seed, 8),
	} {
		if slices.Equal(got, key) {
			t.Errorf("Public with %s is the key", what)
		}
	}
	for i := range sig {
		bad := slices.Clone(sig)
		bad[i][i%32] ^= 0x80
		got := wots.Public(bad, m, seed, 7)
		if len(got) != 67 || got[i] == key[i] {
			t.Fatalf("Public with node %d spoilt leads to the key", i)
		}
		got[i] = key[i]
		checkAll(t, "Public with one node spoilt, but for that one", got, key)
	}
}

func TestGivenStays(t *testing.T) { // P2: what is given, and what lies behind its length
	whole := unlike(100)
	was := slices.Clone(whole)
	for _, m := range messages() {
		got := wots.Public(whole[:67], m, from(2), 3)
		checkAll(t, "Public of nodes with others behind them", got, wots.Public(slices.Clone(was[:67]), m, from(2), 3))
		for i := range got {
			got[i] = filled(0xee)
		}
		got = append(got, filled(0xee))
		if !slices.Equal(whole, was) {
			t.Fatal("nodes that are given are changed, or share memory with the answer")
		}
	}
}

func TestAnswersAreApart(t *testing.T) { // P2, P3: each call has memory of its own, and answers alike
	for what, call := range map[string]func() []api.Node{
		"Key":    func() []api.Node { return wots.Key(from(1), from(2), 3) },
		"Sign":   func() []api.Node { return wots.Sign(from(1), from(9), from(2), 3) },
		"Public": func() []api.Node { return wots.Public(unlike(67), from(9), from(2), 3) },
	} {
		first := call()
		kept := slices.Clone(first)
		again := call()
		for i := range first {
			first[i] = filled(0xee)
		}
		checkAll(t, what+" again", again, kept)
		checkAll(t, what+" once more", call(), kept)
	}
}
