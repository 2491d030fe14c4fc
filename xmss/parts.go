package xmss

import (
	"portreeve/api"
	"portreeve/word"
)

// How many bytes the parts have.
const (
	numberSize = 4
	nodeSize   = len(api.Node{})
	keySize    = numberSize + 2*nodeSize
)

// cutting cuts the next n bytes off. Whoever cuts has asked ahead how many there are in all.
type cutting func(n int) []byte

// cutter answers what goes on through b, so that no place in it is ever named.
func cutter(b []byte) cutting {
	return func(n int) []byte {
		part := b[:n]
		b = b[n:]
		return part
	}
}

func (next cutting) number() uint32 {
	n, _ := word.Be32(next(numberSize), 0)
	return n
}

func (next cutting) node() api.Node { return api.Node(next(nodeSize)) }

// nodes lays each list into memory of its own, so that no two lists of one signature share any.
func (next cutting) nodes(n int) []api.Node {
	l := make([]api.Node, 0, n)
	for range n {
		l = append(l, next.node())
	}
	return l
}

// laid puts nodes behind one another.
func laid(l ...api.Node) []byte {
	b := make([]byte, 0, nodeSize*len(l))
	for _, n := range l {
		b = append(b, n[:]...)
	}
	return b
}
