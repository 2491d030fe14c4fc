package prf

import (
	"portreeve/adrs"
	"portreeve/api"
	"portreeve/word"
)

// The kinds of RFC 8391, 5.1: what is hashed for one use never stands for another.
const (
	kindF   = 0
	kindH   = 1
	kindMsg = 2
	kindPrf = 3
)

// The masks by which the three keys of one Rand are told apart.
const (
	forHash  = 0
	forLeft  = 1
	forRight = 2
)

// wide answers n as 32 bytes: RFC 8391 gives each number that it hashes a node's room.
func wide(n uint32) []byte { return word.PutBe32(make([]byte, 28), n) }

// keys answers what tells the keys of one seed and one address; whatever mask was there gives way.
func keys(seed api.Node, a api.Adrs) func(mask uint32) api.Node {
	return func(mask uint32) api.Node { return Prf(seed, adrs.Masked(a, mask)) }
}
