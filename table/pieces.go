package table

import (
	"iter"

	"portreeve/api"
	"portreeve/desc"
	"portreeve/word"
)

// The levels of tables: of the root, and of what tells pages.
const (
	rootLevel = 1
	lastLevel = 3
)

// pieces tells what m is parted into, one behind the other. It ends of a part that is room.Good alone: each of its pieces is a page at least.
func pieces(m api.Map) iter.Seq[api.Map] {
	return func(yield func(api.Map) bool) {
		for m.Size > 0 {
			piece := m
			piece.Size = desc.Size(levelOf(m))
			if !yield(piece) {
				return
			}
			m.IPA += piece.Size
			m.PA += piece.Size
			m.Size -= piece.Size
		}
	}
}

// levelOf answers the level whose descriptor tells the first piece of m. A piece is its own first one.
func levelOf(m api.Map) int {
	for level := rootLevel; level < lastLevel; level++ {
		if size := desc.Size(level); size <= m.Size && word.Aligned(size, m.IPA, m.PA) {
			return level
		}
	}
	return lastLevel
}
