package xmss

import (
	"portreeve/api"
	"portreeve/ltree"
	"portreeve/word"
)

// chains is how many nodes a one-time signature has.
const chains = 67

// sized is a signature with the height of its key's tree, which tells what it may be.
type sized struct {
	api.Sig
	height int
}

// read takes b apart; it has just the bytes of a signature of that height.
func read(b []byte, height int) sized {
	next := cutter(b)
	s := api.Sig{Idx: next.number(), R: next.node(), Ots: next.nodes(chains), Auth: next.nodes(height)}
	return sized{s, height}
}

// placed tells whether there is such a leaf, and a neighbour at each height of its way.
func (s sized) placed() bool { return s.Idx>>s.height == 0 && len(s.Auth) == s.height }

func (s sized) whole() bool { return s.placed() && len(s.Ots) == chains }

func (s sized) bytes() []byte {
	return word.Cat(word.PutBe32(nil, s.Idx), laid(s.R), laid(s.Ots...), laid(s.Auth...))
}

// root goes from the one-time key of a leaf up to the top: Make and Verify go this way alike (P8.6).
func root(pk []api.Node, seed api.Node, idx uint32, auth []api.Node) api.Node {
	return ltree.Root(ltree.Leaf(pk, seed, idx), idx, auth, seed)
}
