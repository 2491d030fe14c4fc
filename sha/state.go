package sha

import (
	"portreeve/api"
	"portreeve/word"
)

// state is how far a sum has come: the words behind all whole blocks, the block that isn't whole yet, and how many bytes were taken.
type state struct {
	words [8]uint32
	block [64]byte
	taken uint64
}

func begin() state { return state{words: Init()} }

// take copies b piece by piece, since what is given isn't kept.
func (s *state) take(b []byte) {
	for len(b) > 0 {
		n := copy(s.block[s.taken%64:], b)
		b = b[n:]
		s.taken += uint64(n)
		if s.taken%64 == 0 {
			s.words = Block(s.words, s.block)
		}
	}
}

// end pads a copy, for more bytes may come.
func (s state) end() api.Node {
	s.take(Pad(s.taken))
	return api.Node(word.PutBe32(nil, s.words[:]...))
}
