package sha

import "math/bits"

// first and table are written out, since to work out their roots takes longer than to take in many a block.
var first = [8]uint32{
	0x6a09e667, 0xbb67ae85, 0x3c6ef372, 0xa54ff53a, 0x510e527f, 0x9b05688c, 0x1f83d9ab, 0x5be0cd19,
}

var table = [64]uint32{
	0x428a2f98, 0x71374491, 0xb5c0fbcf, 0xe9b5dba5, 0x3956c25b, 0x59f111f1, 0x923f82a4, 0xab1c5ed5,
	0xd807aa98, 0x12835b01, 0x243185be, 0x550c7dc3, 0x72be5d74, 0x80deb1fe, 0x9bdc06a7, 0xc19bf174,
	0xe49b69c1, 0xefbe4786, 0x0fc19dc6, 0x240ca1cc, 0x2de92c6f, 0x4a7484aa, 0x5cb0a9dc, 0x76f988da,
	0x983e5152, 0xa831c66d, 0xb00327c8, 0xbf597fc7, 0xc6e00bf3, 0xd5a79147, 0x06ca6351, 0x14292967,
	0x27b70a85, 0x2e1b2138, 0x4d2c6dfc, 0x53380d13, 0x650a7354, 0x766a0abb, 0x81c2c92e, 0x92722c85,
	0xa2bfe8a1, 0xa81a664b, 0xc24b8b70, 0xc76c51a3, 0xd192e819, 0xd6990624, 0xf40e3585, 0x106aa070,
	0x19a4c116, 0x1e376c08, 0x2748774c, 0x34b0bcb5, 0x391c0cb3, 0x4ed8aa4a, 0x5b9cca4f, 0x682e6ff3,
	0x748f82ee, 0x78a5636f, 0x84c87814, 0x8cc70208, 0x90befffa, 0xa4506ceb, 0xbef9a3f7, 0xc67178f2,
}

// greatest is the last prime whose root the table needs.
const greatest = 311

func nextPrime(p int) int {
	p++
	for !isPrime(p) {
		p++
	}
	return p
}

func isPrime(p int) bool {
	for d := 2; d*d <= p; d++ {
		if p%d == 0 {
			return false
		}
	}
	return true
}

// fraction answers the first 32 bits of the fraction of p's n-th root, n being 2 or 3.
func fraction(p, n int) uint32 {
	if p < 1 || p > greatest {
		return 0
	}
	// The root times 2^32 is below 2^37 and found bit by bit, the highest ahead; its low half is the fraction.
	root := uint64(0)
	for i := range 37 {
		if more := root | 1<<(36-i); fits(more, uint64(p), n) {
			root = more
		}
	}
	return uint32(root)
}

// fits tells whether r to the n-th is at most p times 2^32 to the n-th, by numbers of 128 bits, since floats would round.
func fits(r, p uint64, n int) bool {
	high, low := bits.Mul64(r, r)
	if n == 3 {
		carry, rest := bits.Mul64(low, r)
		high, low = high*r+carry, rest
		p <<= 32
	}
	return high < p || high == p && low == 0
}
