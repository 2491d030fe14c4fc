package cfg

import (
	"portreeve/api"
	"portreeve/word"
)

// What a configuration begins with.
const (
	magic  = 0x42434647
	format = 1
)

// laid is of a configuration that isn't refused: what is cut off from its numbers is 0.
func laid(c api.Config) []byte {
	return word.Cat(
		word.PutBe32(nil, magic),
		shorts(format, len(c.Guests), len(c.Channels), 0),
		word.PutBe32(nil, c.Version),
		row(c.Guests, layGuest),
		row(c.Channels, layChannel),
	)
}

// row lays a list of any kind, one behind the other.
func row[T any](l []T, lay func(T) []byte) []byte {
	var parts [][]byte
	for _, x := range l {
		parts = append(parts, lay(x))
	}
	return word.Cat(parts...)
}

// shorts are numbers of two bytes, which package word doesn't know.
func shorts(l ...int) []byte {
	var b []byte
	for _, n := range l {
		b = append(b, byte(n>>8), byte(n))
	}
	return b
}

func flag(is bool) uint32 {
	if is {
		return 1
	}
	return 0
}

func layGuest(g api.Guest) []byte {
	var name [nameSize]byte
	copy(name[:], g.Name)
	return word.Cat(
		name[:],
		word.PutBe32(nil, flag(g.Mandatory), g.Off, g.Len, g.Cpus),
		word.PutBe64(nil, g.Entry, g.Dtb),
		g.Key[:],
		shorts(len(g.Windows), len(g.Devices), len(g.Irqs), len(g.Streams)),
		row(g.Windows, layWindow),
		row(g.Devices, layDevice),
		row(g.Irqs, layIrq),
		word.PutBe32(nil, g.Streams...),
	)
}

func layWindow(w api.Window) []byte {
	return word.PutBe32(word.PutBe64(nil, w.IPA, w.PA, w.Size), uint32(w.Perm))
}

func layDevice(d api.Dev) []byte { return word.PutBe64(nil, d.IPA, d.PA, d.Size) }

func layIrq(i api.Irq) []byte { return word.PutBe32(shorts(i.Number, i.Cpu), flag(i.Edge)) }

func layChannel(c api.Channel) []byte {
	return word.Cat(word.PutBe64(nil, c.PA, c.Size), row(c.Ends[:], layEnd))
}

func layEnd(end api.End) []byte { return word.PutBe64(shorts(end.Guest, end.Perm), end.IPA) }
