package valid

import (
	"slices"

	"portreeve/api"
	"portreeve/span"
)

const (
	// firstIrq is the lowest interrupt that a guest may have: those below it are the processors' own.
	firstIrq = 32
	// instruction is how many bytes one has.
	instruction = 4
	// treeSize is how many bytes a guest's device tree may have.
	treeSize = 16384
)

func each[T any](l []T, holds func(T) bool) bool {
	return !slices.ContainsFunc(l, func(x T) bool { return !holds(x) })
}

// low tells whether pages below 2^40, one at least, are all that each span has.
func low(l ...api.Span) bool {
	addresses := api.Span{Size: api.MaxAddr}
	return span.Pages(l...) && each(l, func(s api.Span) bool { return span.Within(s, addresses) })
}

func allows(perm, wanted int) bool { return perm&wanted == wanted }

// set tells whether bit n is. There is none behind the highest one, and cfg.Put has let no n below 0 by.
func set(mask uint32, n int) bool { return mask>>n&1 == 1 }

func (k *check) cpus(mask uint32) bool {
	for n := range 32 {
		if set(mask, n) && (n >= k.Cpus || !k.takenCpus.take(n)) {
			return false
		}
	}
	return mask != 0
}

func seen(w api.Window) api.Span { return api.Span{Base: w.IPA, Size: w.Size} }

func (k *check) window(w api.Window) bool {
	physical := api.Span{Base: w.PA, Size: w.Size}
	return low(seen(w), physical) && w.Perm != 0 && k.ours(physical)
}

// ours tells whether s is memory that the loader leaves to others.
func (k *check) ours(s api.Span) bool { return span.Within(s, k.Ram) && !span.Overlap(s, k.Loader) }

func (k *check) device(d api.Dev) bool {
	physical := api.Span{Base: d.PA, Size: d.Size}
	return low(api.Span{Base: d.IPA, Size: d.Size}, physical) && !span.Overlap(physical, k.Ram)
}

// entered relies on cfg.Put, which lets no guest without a window by.
func entered(g api.Guest) bool {
	first := g.Windows[0]
	return g.Entry%instruction == 0 && span.Has(seen(first), g.Entry) && allows(first.Perm, api.Read|api.Exec)
}

// described asks for some window that all of it is true of: others may have the same IPA, which is for room.Maps to tell.
func described(g api.Guest) bool {
	tree := api.Span{Base: g.Dtb, Size: treeSize}
	holds := func(w api.Window) bool { return allows(w.Perm, api.Read) && span.Within(tree, seen(w)) }
	return g.Dtb == 0 || g.Dtb%api.Page == 0 && slices.ContainsFunc(g.Windows[1:], holds)
}

func (k *check) irq(i api.Irq, cpus uint32) bool {
	return firstIrq <= i.Number && i.Number < k.Irqs && set(cpus, i.Cpu) && k.takenIrqs.take(i.Number)
}

// stream asks a board that fits: its number of streams is no less and no more in 32 bits.
func (k *check) stream(n uint32) bool { return n < uint32(k.Streams) && k.takenStreams.take(n) }

// shared may take what it is told among all that guests have: no device of theirs lies where it lies.
func (k *check) shared(s api.Span) bool { return span.Pages(s) && k.ours(s) && k.own(s) }

// joined leaves it to cfg.Put that no end's Guest is below 0.
func joined(ch api.Channel, guests int) bool {
	fits := func(e api.End) bool {
		return e.Guest < guests && e.Perm != 0 && !allows(e.Perm, api.Exec) && low(api.Span{Base: e.IPA, Size: ch.Size})
	}
	return ch.Ends[0].Guest != ch.Ends[1].Guest && each(ch.Ends[:], fits)
}
