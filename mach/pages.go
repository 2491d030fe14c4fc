package mach

import (
	"iter"

	"portreeve/api"
	"portreeve/span"
	"portreeve/word"
)

type page [api.Page]byte

// pages keeps, by their bases, those pages that have a byte which isn't 0, and no others: a great ram takes little room, and which pages are touched needn't be looked for.
type pages map[uint64]*page

// whole is the page at base as a span.
func whole(base uint64) api.Span { return api.Span{Base: base, Size: api.Page} }

// bases tells the pages that s has addresses of. It lies below api.MaxAddr, so no base wraps.
func bases(s api.Span) iter.Seq[uint64] {
	return func(yield func(uint64) bool) {
		for base := word.Down(s.Base, api.Page); span.Overlap(whole(base), s); base += api.Page {
			if !yield(base) {
				return
			}
		}
	}
}

// within answers which places in the page at base s has: from the first up to the one behind the last.
func within(base uint64, s api.Span) (from, to uint64) {
	if !span.Overlap(whole(base), s) {
		return 0, 0
	}
	return max(s.Base, base) - base, min(span.Last(s)-base, api.Page-1) + 1
}

func (p pages) read(s api.Span) []byte {
	b := make([]byte, s.Size)
	for base := range bases(s) {
		if kept := p[base]; kept != nil {
			from, to := within(base, s)
			copy(b[base+from-s.Base:], kept[from:to])
		}
	}
	return b
}

func (p pages) write(s api.Span, b []byte) {
	for base := range bases(s) {
		from, to := within(base, s)
		at := base + from - s.Base
		p.lay(base, from, b[at:at+to-from])
	}
}

func (p pages) lay(base, from uint64, b []byte) {
	if p[base] == nil {
		p[base] = new(page)
	}
	copy(p[base][from:], b)
	p.settle(base)
}

// zero goes through the pages of s or through those that are kept, whichever are fewer: s may have 2^28 of them, or a single one.
func (p pages) zero(s api.Span) {
	if s.Size/api.Page < uint64(len(p)) {
		for base := range bases(s) {
			p.blank(base, s)
		}
		return
	}
	for base := range p {
		p.blank(base, s)
	}
}

// blank makes what s has of a page 0.
func (p pages) blank(base uint64, s api.Span) {
	if kept := p[base]; kept != nil {
		from, to := within(base, s)
		clear(kept[from:to])
		p.settle(base)
	}
}

// settle forgets a page that has become all 0.
func (p pages) settle(base uint64) {
	if *p[base] == (page{}) {
		delete(p, base)
	}
}
