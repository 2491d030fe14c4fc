package sha

import (
	"math/bits"

	"portreeve/word"
)

// The functions of FIPS 180-4, 4.1.2, stand here by plain names: choose is Ch, most is Maj, the big sums are the great sigmas.

func turn(x uint32, n int) uint32 { return bits.RotateLeft32(x, -n) }

func choose(x, y, z uint32) uint32 { return x&y ^ ^x&z }

func most(x, y, z uint32) uint32 { return x&y ^ x&z ^ y&z }

func bigSum0(x uint32) uint32 { return turn(x, 2) ^ turn(x, 13) ^ turn(x, 22) }

func bigSum1(x uint32) uint32 { return turn(x, 6) ^ turn(x, 11) ^ turn(x, 25) }

func smallSum0(x uint32) uint32 { return turn(x, 7) ^ turn(x, 18) ^ x>>3 }

func smallSum1(x uint32) uint32 { return turn(x, 17) ^ turn(x, 19) ^ x>>10 }

// schedule answers the 16 words of a block, and those that follow from them.
func schedule(b [64]byte) [64]uint32 {
	var w [64]uint32
	for i := range 16 {
		w[i], _ = word.Be32(b[:], 4*i)
	}
	for i := 16; i < len(w); i++ {
		w[i] = smallSum1(w[i-2]) + w[i-7] + smallSum0(w[i-15]) + w[i-16]
	}
	return w
}

// work answers the working words behind all rounds. Each round moves all words on by a place, the last one to the front; here they stay where they are, and their places are counted back, until behind 64 rounds they are the old ones again.
func work(v [8]uint32, w [64]uint32) [8]uint32 {
	for i, n := range w {
		a, b, c, d := place(0, i), place(1, i), place(2, i), place(3, i)
		e, f, g, h := place(4, i), place(5, i), place(6, i), place(7, i)
		one := v[h] + bigSum1(v[e]) + choose(v[e], v[f], v[g]) + table[i] + n
		two := bigSum0(v[a]) + most(v[a], v[b], v[c])
		v[d] += one
		v[h] = one + two
	}
	return v
}

// place answers where in round i the k-th working word stands.
func place(k, i int) int { return (k - i) & 7 }
