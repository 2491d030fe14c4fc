package cfg

import (
	"portreeve/api"
	"portreeve/word"
)

// fault is what a parse is given up with.
type fault struct {
	place int
	e     api.Errno
}

// cursor goes on through b field by field: the one that was read last stands from at up to next.
type cursor struct {
	b        []byte
	at, next int
}

// must gives up at the field that was read last, unless it holds what must hold of it.
func (c *cursor) must(holds bool, e api.Errno) {
	if !holds {
		panic(fault{c.at, e})
	}
}

// field goes on to the next field. It holds its size against what is left, so that nothing behind b's length is reached.
func (c *cursor) field(size int) []byte {
	c.at = c.next
	c.must(size <= len(c.b)-c.at, api.ErrShort)
	c.next = c.at + size
	return c.b[c.at:c.next]
}

// over gives up, if something is left.
func (c *cursor) over() {
	c.at = c.next
	c.must(c.at == len(c.b), api.ErrTrail)
}

func (c *cursor) short() int {
	b := c.field(2)
	return int(b[0])<<8 | int(b[1])
}

func (c *cursor) long() uint32 {
	n, _ := word.Be32(c.field(4), 0)
	return n
}

func (c *cursor) wide() uint64 {
	n, _ := word.Be64(c.field(8), 0)
	return n
}
