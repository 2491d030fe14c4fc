package word

import "math/bits"

// number is what one function reads, and one puts, in either size.
type number interface{ uint32 | uint64 }

// order tells which of a number's bytes stands ahead.
type order int

const (
	highFirst order = iota
	lowFirst
)

// size is worked out of the greatest number, since package unsafe, which would tell it, is ruled out.
func size[N number]() int { return bits.Len64(uint64(^N(0))) / 8 }

// shift serves reading and putting alike, so that what is put in an order is what is read in it (P1.7).
func (o order) shift(i, wide int) int {
	if o == lowFirst {
		return 8 * i
	}
	return 8 * (wide - 1 - i)
}

// read holds at against the length less the size, since at plus the size may wrap.
func read[N number](b []byte, at int, o order) (N, bool) {
	wide := size[N]()
	if at < 0 || at > len(b)-wide {
		return 0, false
	}
	n := N(0)
	for i := range wide {
		n |= N(b[at+i]) << o.shift(i, wide)
	}
	return n, true
}

// put lays all into new memory, even where b has room behind its length: that room is the caller's.
func put[N number](b []byte, l []N, o order) []byte {
	wide := size[N]()
	behind := make([]byte, 0, wide*len(l))
	for _, n := range l {
		for i := range wide {
			behind = append(behind, byte(n>>o.shift(i, wide)))
		}
	}
	return Cat(b, behind)
}
