package wots

import (
	"portreeve/adrs"
	"portreeve/api"
	"portreeve/prf"
)

// The masks by which the two keys of a step are told apart.
const (
	forHash = 0
	forNode = 1
)

// place is that of a hash within a chain, with the seed that its keys come from.
type place struct {
	api.Adrs
	seed api.Node
}

// placed answers where a chain begins, or false if there is no such chain.
func placed(seed api.Node, idx uint32, chain int) (place, bool) {
	if chain < 0 || chain >= chains {
		return place{}, false
	}
	return place{adrs.Ots(idx, uint32(chain), 0), seed}, true
}

// at answers the place of the chain's i-th hash.
func (p place) at(i int) place {
	p.C = uint32(i)
	return p
}

func (p place) keyed(mask uint32) api.Node { return prf.Prf(p.seed, adrs.Masked(p.Adrs, mask)) }

// step answers what x becomes here.
func (p place) step(x api.Node) api.Node {
	return prf.F(p.keyed(forHash), prf.Xor(x, p.keyed(forNode)))
}
