package wots

import (
	"iter"

	"portreeve/api"
)

// RFC 8391, 3.1.1, with w = 16: a chain for each half byte of a node, and three for their check sum, which is at most 960.
const (
	chains = halves + sums
	halves = 64
	sums   = 3
	last   = 15
)

// digits tells chain by chain m's digits. Those of the check sum fall as the others rise, so that none who only goes on along the chains comes from one message to another.
func digits(m api.Node) iter.Seq2[int, int] {
	return func(yield func(chain, digit int) bool) {
		sum := 0
		for i := range halves {
			d := half(m, i)
			sum += last - d
			if !yield(i, d) {
				return
			}
		}
		for i := range sums {
			if !yield(halves+i, sum>>(4*(sums-1-i))&last) {
				return
			}
		}
	}
}

// ends tells chain by chain where it ends.
func ends() iter.Seq2[int, int] {
	return func(yield func(chain, digit int) bool) {
		for chain := range chains {
			if !yield(chain, last) {
				return
			}
		}
	}
}

// half answers the i-th half byte of m, the upper one of each byte ahead.
func half(m api.Node, i int) int {
	b := m[i/2]
	if i%2 == 0 {
		b >>= 4
	}
	return int(b & last)
}
