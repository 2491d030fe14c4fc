package table

import (
	"portreeve/api"
	"portreeve/desc"
	"portreeve/frame"
	"portreeve/mach"
)

// The root has twice the descriptors of other tables, and lies where the register of a guest can tell it.
const (
	rootFrames = 2
	rootSize   = rootFrames * api.Page
)

// entrySize is how many bytes a descriptor has.
const entrySize = 8

// builder is memory that tables are laid into, the pool of their frames, and where they lie by now.
type builder struct {
	*mach.Mem
	*frame.Pool
	tables map[place]uint64
}

// root makes the table of level 1.
func (b *builder) root() (uint64, api.Errno) {
	at, e := b.Run(rootFrames, rootSize)
	if e != api.OK {
		return 0, e
	}
	return at, b.empty(placeOf(rootLevel, 0), api.Span{Base: at, Size: rootSize})
}

// empty makes a table without descriptors of what was handed out, whatever that held.
func (b *builder) empty(p place, frames api.Span) api.Errno {
	b.tables[p] = frames.Base
	return b.Zero(frames)
}

// tell lays the descriptor of a piece, and ahead of it those of the tables that it needs.
func (b *builder) tell(piece api.Map) api.Errno {
	for p := range below(piece) {
		if e := b.open(p); e != api.OK {
			return e
		}
	}
	level := levelOf(piece)
	kind := api.DescBlock
	if level == lastLevel {
		kind = api.DescPage
	}
	return b.enter(level, piece.IPA, api.Desc{Kind: kind, PA: piece.PA, Perm: piece.Perm, Mem: piece.Kind, AF: true})
}

// open makes a table that isn't there yet, and tells it in the one above, which is.
func (b *builder) open(p place) api.Errno {
	if _, is := b.tables[p]; is {
		return api.OK
	}
	at, e := b.Alloc()
	if e != api.OK {
		return e
	}
	if e := b.empty(p, api.Span{Base: at, Size: api.Page}); e != api.OK {
		return e
	}
	return b.enter(p.level-1, p.first, api.Desc{Kind: api.DescTable, PA: at})
}

// enter lays d at the place for that address in the table of that level, which is there.
func (b *builder) enter(level int, ipa uint64, d api.Desc) api.Errno {
	w, e := desc.Put(level, d)
	if e != api.OK {
		return e
	}
	p := placeOf(level, ipa)
	n := (ipa - p.first) / desc.Size(level)
	return b.Put(b.tables[p]+n*entrySize, w)
}
