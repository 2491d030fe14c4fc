package table

import (
	"iter"

	"portreeve/api"
	"portreeve/desc"
	"portreeve/word"
)

// place tells a table from all others: by its level, and by the first address that it is for.
type place struct {
	level int
	first uint64
}

func placeOf(level int, ipa uint64) place { return place{level, word.Down(ipa, reach(level))} }

// reach answers how many bytes of addresses a table of that level is for.
func reach(level int) uint64 {
	if level == rootLevel {
		return api.MaxAddr
	}
	return desc.Size(level - 1)
}

// below tells the tables below the root that a piece is told by. That of level 2 comes first, since it tells that of level 3.
func below(piece api.Map) iter.Seq[place] {
	return func(yield func(place) bool) {
		for level := rootLevel + 1; level <= levelOf(piece); level++ {
			if !yield(placeOf(level, piece.IPA)) {
				return
			}
		}
	}
}
