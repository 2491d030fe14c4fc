package room

import (
	"cmp"
	"iter"
	"slices"

	"portreeve/api"
	"portreeve/span"
)

// Which parts stand ahead of which, where they are of one IPA.
const (
	windowRank = iota
	deviceRank
	endRank
)

// all is the most that a part's Perm may be.
const all = api.Read | api.Write | api.Exec

// ranked is a part with its rank.
type ranked struct {
	api.Map
	rank int
}

// before holds p against another by IPA, and then by rank.
func (p ranked) before(other ranked) int {
	return cmp.Or(cmp.Compare(p.IPA, other.IPA), cmp.Compare(p.rank, other.rank))
}

func there(c api.Config, g int) bool { return 0 <= g && g < len(c.Guests) }

func seen(m api.Map) api.Span { return api.Span{Base: m.IPA, Size: m.Size} }

func physical(m api.Map) api.Span { return api.Span{Base: m.PA, Size: m.Size} }

// parts tells a guest's windows, then its devices, then the ends that name it, each as they are named; of a guest that isn't there nothing.
func parts(c api.Config, g int) iter.Seq[ranked] {
	return func(yield func(ranked) bool) {
		if !there(c, g) {
			return
		}
		for _, w := range c.Guests[g].Windows {
			if !yield(ranked{api.Map{IPA: w.IPA, PA: w.PA, Size: w.Size, Perm: w.Perm, Kind: api.Normal}, windowRank}) {
				return
			}
		}
		for _, d := range c.Guests[g].Devices {
			if !yield(ranked{api.Map{IPA: d.IPA, PA: d.PA, Size: d.Size, Perm: api.Read | api.Write, Kind: api.Device}, deviceRank}) {
				return
			}
		}
		for m := range ends(c.Channels, g) {
			if !yield(ranked{m, endRank}) {
				return
			}
		}
	}
}

// ends tells what guest g finds at each end that names it: where and how the end says, what the channel says.
func ends(l []api.Channel, g int) iter.Seq[api.Map] {
	return func(yield func(api.Map) bool) {
		for _, ch := range l {
			for _, e := range ch.Ends {
				if e.Guest == g && !yield(api.Map{IPA: e.IPA, PA: ch.PA, Size: ch.Size, Perm: e.Perm, Kind: api.Normal}) {
					return
				}
			}
		}
	}
}

// gathered answers a guest's parts in order, and whether each one's spans are Good.
func gathered(c api.Config, g int) ([]ranked, bool) {
	var l []ranked
	put := func(p ranked) bool {
		if !span.Good(seen(p.Map)) || !span.Good(physical(p.Map)) {
			return false
		}
		l = append(l, p)
		return true
	}
	for p := range parts(c, g) {
		if !put(p) {
			return nil, false
		}
	}
	slices.SortStableFunc(l, ranked.before)
	return l, true
}

// apart holds neighbours alone against each other: by IPA a Good part that overlaps a later one overlaps the next one too.
func apart(l []ranked) bool {
	for i := 1; i < len(l); i++ {
		if span.Overlap(seen(l[i-1].Map), seen(l[i].Map)) {
			return false
		}
	}
	return true
}

func bare(l []ranked) []api.Map {
	var out []api.Map
	for _, p := range l {
		out = append(out, p.Map)
	}
	return out
}

// holds is what Good asks of a part by itself.
func holds(m api.Map) bool {
	addresses := api.Span{Base: 0, Size: api.MaxAddr}
	return span.Pages(seen(m), physical(m)) &&
		span.Within(seen(m), addresses) && span.Within(physical(m), addresses) &&
		1 <= m.Perm && m.Perm <= all && (m.Kind == api.Normal || m.Kind == api.Device)
}
