package span

import (
	"cmp"
	"iter"
	"math"
	"slices"
	"sort"

	"portreeve/api"
)

// half is a size with which two spans hold all 2^64 addresses, since no size holds them in one.
const half = 1 << 63

// good tells those of l that are Good, in their order.
func good(l ...api.Span) iter.Seq[api.Span] {
	return func(yield func(api.Span) bool) {
		for _, s := range l {
			if Good(s) && !yield(s) {
				return
			}
		}
	}
}

// rising answers the Good ones of l by their bases, in new memory.
func rising(l ...api.Span) []api.Span {
	return slices.SortedFunc(good(l...), func(a, b api.Span) int { return cmp.Compare(a.Base, b.Base) })
}

// clash holds neighbours alone against each other: if a span overlaps a later one of the rising, then the next one too.
func clash(l ...api.Span) bool {
	by := rising(l...)
	for i := 1; i < len(by); i++ {
		if Overlap(by[i-1], by[i]) {
			return true
		}
	}
	return false
}

// covered answers what tells whether an address is of a Good one of l.
func covered(l ...api.Span) func(at uint64) bool {
	by := rising(l...)
	// How far the spans up to each one reach: a long one may lie over those that begin behind it.
	reach := make([]uint64, 0, len(by))
	far := uint64(0)
	for _, s := range by {
		far = max(far, Last(s))
		reach = append(reach, far)
	}
	return func(at uint64) bool {
		begun := sort.Search(len(by), func(i int) bool { return by[i].Base > at })
		return begun > 0 && at <= reach[begun-1]
	}
}

// borders tells, rising, each address at which a Good one of l begins, or right behind which it ended; 2^64 is no address.
func borders(l ...api.Span) iter.Seq[uint64] {
	return func(yield func(uint64) bool) {
		var all []uint64
		for s := range good(l...) {
			all = append(all, s.Base)
			if Last(s) < math.MaxUint64 {
				all = append(all, Last(s)+1)
			}
		}
		slices.Sort(all)
		for _, at := range slices.Compact(all) {
			if !yield(at) {
				return
			}
		}
	}
}

// runs answers the longest spans of addresses that are as they must be. From a border of l up to the next one they are all alike, and ahead of the first none may be so; hence borders alone are asked.
func runs(must func(at uint64) bool, l ...api.Span) []api.Span {
	var out []api.Span
	from, open := uint64(0), false
	for at := range borders(l...) {
		is := must(at)
		if is && !open {
			from = at
		}
		if open && !is {
			out = append(out, api.Span{Base: from, Size: at - from})
		}
		open = is
	}
	if open {
		out = append(out, top(from)...)
	}
	return out
}

// top answers the addresses from one on, up to the last there is.
func top(from uint64) []api.Span {
	if from == 0 {
		return []api.Span{{Base: 0, Size: half}, {Base: half, Size: half}}
	}
	return []api.Span{{Base: from, Size: math.MaxUint64 - from + 1}}
}
