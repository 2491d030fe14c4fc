package ltree

import (
	"iter"
	"math/bits"

	"portreeve/api"
)

// full tells whether a tree may have n leaves: just one bit is set if each node but the root has a neighbour.
func full(n int) bool { return n <= maxLeaves && bits.OnesCount(uint(n)) == 1 }

// pairs tells, from the 0-th on, each two neighbours of l; the last one is left out if it has none.
func pairs(l []api.Node) iter.Seq2[uint32, pair] {
	return func(yield func(i uint32, two pair) bool) {
		for i := 0; 2*i+1 < len(l); i++ {
			if !yield(uint32(i), pair{l[2*i], l[2*i+1]}) {
				return
			}
		}
	}
}

// raised answers what the nodes of a height become, in new memory, since those of height 0 are the caller's.
func raised(l []api.Node, height uint32, join joining) []api.Node {
	up := make([]api.Node, 0, (len(l)+1)/2)
	for i, two := range pairs(l) {
		up = append(up, join(height, i, two))
	}
	if len(l)%2 == 1 {
		up = append(up, l[len(l)-1])
	}
	return up
}

// heights tells height by height its nodes, from l itself up to the one that is left.
func heights(l []api.Node, join joining) iter.Seq2[uint32, []api.Node] {
	return func(yield func(height uint32, l []api.Node) bool) {
		at := l
		for height := uint32(0); len(at) > 0 && yield(height, at) && len(at) > 1; height++ {
			at = raised(at, height, join)
		}
	}
}
