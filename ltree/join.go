package ltree

import (
	"portreeve/api"
	"portreeve/prf"
)

// pair is two neighbours, the left one ahead.
type pair struct{ left, right api.Node }

// joining makes one node of the pair that is the index-th of its height.
type joining func(height, index uint32, two pair) api.Node

// joiner answers what joins pairs under a seed. The place tells the trees apart: that over a key, and that over leaves.
func joiner(seed api.Node, place func(height, index uint32) api.Adrs) joining {
	return func(height, index uint32, two pair) api.Node {
		return prf.Rand(two.left, two.right, seed, place(height, index))
	}
}
