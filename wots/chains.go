package wots

import (
	"iter"

	"portreeve/api"
)

// each answers what do makes of each chain and its digit.
func each(digits iter.Seq2[int, int], do func(chain, digit int) api.Node) []api.Node {
	all := make([]api.Node, 0, chains)
	for chain, digit := range digits {
		all = append(all, do(chain, digit))
	}
	return all
}

// grow goes from the secrets on, along each chain up to its digit: a key is a signature that is at the end of all of them.
func grow(secret, seed api.Node, idx uint32, digits iter.Seq2[int, int]) []api.Node {
	return each(digits, func(chain, digit int) api.Node {
		return Chain(Secret(secret, idx, chain), 0, digit, seed, idx, chain)
	})
}
