package adrs

import (
	"portreeve/api"
	"portreeve/word"
)

// common is what addresses of all kinds have; those of one kind embed it.
type common struct {
	layer      uint32
	tree       uint64
	kind, mask uint32
}

func commonOf(a api.Adrs) common { return common{a.Layer, a.Tree, a.Kind, a.Mask} }

// with makes an address of these words and a kind's own.
func (k common) with(a, b, c uint32) api.Adrs {
	return api.Adrs{Layer: k.layer, Tree: k.tree, Kind: k.kind, A: a, B: b, C: c, Mask: k.mask}
}

// lay puts a kind's own words between those of all kinds: of these the mask alone stands behind them.
func (k common) lay(own ...uint32) api.Node {
	l := []uint32{k.layer, uint32(k.tree >> 32), uint32(k.tree), k.kind}
	l = append(l, own...)
	l = append(l, k.mask)
	n := api.Node{}
	copy(n[:], word.PutBe32(nil, l...))
	return n
}

// words reads all that a node has room for, so that no word lies behind its end.
func words(n api.Node) [8]uint32 {
	w := [8]uint32{}
	for i := range w {
		w[i], _ = word.Be32(n[:], 4*i)
	}
	return w
}
