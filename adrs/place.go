package adrs

import "portreeve/api"

// The kinds of RFC 8391, 2.5: their numbers keep the hashes of one kind from those of another.
const (
	kindOts   = 0
	kindLtree = 1
	kindTree  = 2
)

// otsPlace is a hash within a chain of a one-time key.
type otsPlace struct {
	common
	idx, chain, hash uint32
}

func (p otsPlace) adrs() api.Adrs { return p.with(p.idx, p.chain, p.hash) }

// ltreePlace is a node of the tree over a one-time key.
type ltreePlace struct {
	common
	idx, height, index uint32
}

func (p ltreePlace) adrs() api.Adrs { return p.with(p.idx, p.height, p.index) }

// treePlace is a node of the tree over all leaves: it belongs to no one key, so that its first word is 0.
type treePlace struct {
	common
	height, index uint32
}

func (p treePlace) adrs() api.Adrs { return p.with(0, p.height, p.index) }
