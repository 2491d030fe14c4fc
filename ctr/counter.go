package ctr

import (
	"iter"
	"math"

	"portreeve/api"
	"portreeve/nv"
	"portreeve/slot"
)

// The layout of a counter's words.
const (
	slotWords    = 4
	slotCount    = 2
	counterWords = slotCount * slotWords
)

// last is the Value and the Seq that nothing comes behind.
const last = math.MaxUint32

// counter is a counter in a store, whether the store has it or not.
type counter struct {
	*nv.Store
	id int
}

// placed is a record with its slot's place.
type placed struct {
	api.Rec
	place int
}

// other is the place of the slot beside one.
func other(place int) int { return slotCount - 1 - place }

func (c counter) there() bool { return 0 <= c.id && c.id < Count(c.Store) }

// at is where a slot begins, in a store that has the counter: of an id that is too great the product would wrap.
func (c counter) at(place int) int { return c.id*counterWords + place*slotWords }

// words asks for no error, since a store that has the counter has all of them.
func (c counter) words(place int) [slotWords]uint32 {
	var w [slotWords]uint32
	for i := range w {
		w[i], _ = c.Read(c.at(place) + i)
	}
	return w
}

// slots tells both slots' words, each with its place.
func (c counter) slots() iter.Seq2[int, [slotWords]uint32] {
	return func(yield func(int, [slotWords]uint32) bool) {
		for place := range slotCount {
			if !yield(place, c.words(place)) {
				return
			}
		}
	}
}

// newest tells the record that counts, if there is one: of two that are alike the first slot's.
func (c counter) newest() (placed, bool) {
	var top placed
	found := false
	for place, w := range c.slots() {
		r, is := slot.Of(c.id, w)
		switch {
		case !is:
		case !found || r.Seq > top.Seq:
			top, found = placed{r, place}, true
		case r.Seq == top.Seq && r.Value != top.Value:
			return placed{}, false
		}
	}
	return top, found
}

// recovered: P13.2.
func (c counter) recovered() (placed, api.Errno) {
	if !c.there() {
		return placed{}, api.ErrRange
	}
	r, found := c.newest()
	if !found {
		return placed{}, api.ErrLost
	}
	if r.Value == last || r.Seq == last {
		return placed{}, api.ErrFull
	}
	return r, api.OK
}

// lay makes a slot's words those of a record, one write at a time.
func (c counter) lay(place int, r api.Rec) api.Errno {
	for _, p := range slot.Steps(c.id, c.words(place), r) {
		if e := c.Write(c.at(place)+p.At, p.W); e != api.OK {
			return e
		}
	}
	return api.OK
}
