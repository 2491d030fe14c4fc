package frame

import (
	"portreeve/api"
	"portreeve/span"
	"portreeve/word"
)

// bounds is all the frames that a pool may ever hand out, one behind the other. Its zero value has none.
type bounds struct{ frames api.Span }

func boundsOf(s api.Span) bounds {
	first, is := word.Up(s.Base, api.Page)
	if !is || !span.Has(s, first) {
		return bounds{}
	}
	// Sizes alone are reckoned with, since s may end at 2^64 itself.
	left := s.Size - (first - s.Base)
	return bounds{api.Span{Base: first, Size: word.Down(left, api.Page)}}
}

func (b *bounds) inside(at uint64) bool { return span.Has(b.frames, at) }

func (b *bounds) total() uint64 { return b.frames.Size / api.Page }
