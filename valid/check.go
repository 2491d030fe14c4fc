package valid

import (
	"portreeve/api"
	"portreeve/cfg"
	"portreeve/mach"
	"portreeve/room"
	"portreeve/span"
)

// The rules, by the numbers of P17.1.
const (
	boardRule = 1 + iota
	configRule
	cpuRule
	windowRule
	deviceRule
	entryRule
	dtbRule
	irqRule
	streamRule
	ownRule
	channelRule
	endRule
	roomRule
)

// broken is a rule that doesn't hold, and the guest or the channel of which it doesn't.
type broken struct{ rule, where int }

// taken is what guests that were asked have to themselves.
type taken[K comparable] map[K]struct{}

// take tells whether nobody had it.
func (t taken[K]) take(thing K) bool {
	_, is := t[thing]
	t[thing] = struct{}{}
	return !is
}

// check is a board, with what of it is taken already, and whom is being asked.
type check struct {
	api.Board
	where        int
	takenNames   taken[string]
	takenCpus    taken[int]
	takenIrqs    taken[int]
	takenStreams taken[uint32]
	takenMemory  []api.Span
}

func newCheck(b api.Board) *check {
	return &check{
		Board:        b,
		takenNames:   taken[string]{},
		takenCpus:    taken[int]{},
		takenIrqs:    taken[int]{},
		takenStreams: taken[uint32]{},
	}
}

// must gives up at the first rule that doesn't hold, so that those behind it rely on it.
func (k *check) must(rule int, holds bool) {
	if !holds {
		panic(broken{rule, k.where})
	}
}

func (k *check) whole(c api.Config) {
	k.must(boardRule, mach.Fit(k.Board) == api.OK)
	_, e := cfg.Put(c)
	k.must(configRule, e == api.OK)
	for n, g := range c.Guests {
		k.where = n
		k.must(configRule, k.takenNames.take(g.Name))
	}
}

func (k *check) guests(c api.Config) {
	for n, g := range c.Guests {
		k.where = n
		k.must(cpuRule, k.cpus(g.Cpus))
		k.must(windowRule, each(g.Windows, k.window))
		k.must(deviceRule, each(g.Devices, k.device))
		k.must(entryRule, entered(g))
		k.must(dtbRule, described(g))
		k.must(irqRule, each(g.Irqs, func(i api.Irq) bool { return k.irq(i, g.Cpus) }))
		k.must(streamRule, each(g.Streams, k.stream))
		k.must(ownRule, k.own(room.Physical(c, n)...))
	}
}

func (k *check) channels(c api.Config) {
	for n, ch := range c.Channels {
		k.where = n
		k.must(channelRule, k.shared(api.Span{Base: ch.PA, Size: ch.Size}))
		k.must(endRule, joined(ch, len(c.Guests)))
	}
}

func (k *check) rooms(c api.Config) {
	for n := range c.Guests {
		k.where = n
		_, e := room.Maps(c, n)
		k.must(roomRule, e == api.OK)
	}
}

// own takes memory, and tells whether it was nobody's, and is all of it apart.
func (k *check) own(l ...api.Span) bool {
	k.takenMemory = append(k.takenMemory, l...)
	_, _, clash := span.First(k.takenMemory...)
	return !clash
}
