package valid_test

import (
	"fmt"
	"reflect"
	"slices"
	"testing"

	"portreeve/api"
	"portreeve/valid"
)

const (
	page = 4096
	top  = 1 << 40
	last = 1<<64 - 1

	rd  = api.Read
	wr  = api.Write
	ex  = api.Exec
	rw  = rd | wr
	rx  = rd | ex
	rwx = rd | wr | ex
)

// Where the memory of the board lies: the loader has some in its midst.
const (
	ram       = 0x40000000
	ramEnd    = 0x48000000
	loader    = 0x44000000
	loaderEnd = 0x44100000
	free      = 0x46000000 // from here up to 0x47000000 nobody has anything
)

func sp(base, size uint64) api.Span { return api.Span{Base: base, Size: size} }

func board() api.Board {
	return api.Board{Ram: sp(ram, ramEnd-ram), Loader: sp(loader, loaderEnd-loader), Irqs: 64, Streams: 16, Cpus: 8}
}

func window(ipa, pa, size uint64, perm int) api.Window {
	return api.Window{IPA: ipa, PA: pa, Size: size, Perm: perm}
}

func dev(ipa, pa, size uint64) api.Dev { return api.Dev{IPA: ipa, PA: pa, Size: size} }

func end(guest, perm int, ipa uint64) api.End { return api.End{Guest: guest, Perm: perm, IPA: ipa} }

func channel(pa, size uint64, a, b api.End) api.Channel {
	return api.Channel{PA: pa, Size: size, Ends: [2]api.End{a, b}}
}

var key = [68]byte{3: 1}

// one is a system of one guest, that has no more than it must.
func one() api.Config {
	return api.Config{Guests: []api.Guest{{Name: "one", Cpus: 1, Key: key, Windows: []api.Window{window(0, ram, 0x100000, rx)}}}}
}

// three is a system that has everything: its guests have channels with each other, and its second guest's first window isn't the lowest.
func three() api.Config {
	return api.Config{
		Version: 7,
		Guests: []api.Guest{{
			Name: "alpha", Mandatory: true, Off: 1, Len: 2, Cpus: 0b11, Entry: 0x1000, Dtb: 0x200000, Key: key,
			Windows: []api.Window{window(0, 0x40100000, 0x100000, rx), window(0x200000, 0x40200000, 0x10000, rw)},
			Devices: []api.Dev{dev(0x9000000, 0x9000000, 0x2000)},
			Irqs:    []api.Irq{{Number: 33}, {Number: 34, Cpu: 1, Edge: true}},
			Streams: []uint32{1, 2},
		}, {
			Name: "beta", Cpus: 0b10100, Entry: 0x80000000, Dtb: 0x300000, Key: key,
			Windows: []api.Window{window(0x80000000, 0x40400000, 0x200000, rwx), window(0x100000, 0x40600000, 0x1000, wr), window(0x300000, 0x40700000, 0x4000, rd)},
			Devices: []api.Dev{dev(0x9000000, 0xa000000, 0x1000), dev(0x8000000, 0xa001000, 0x1000)},
			Irqs:    []api.Irq{{Number: 40, Cpu: 4}},
			Streams: []uint32{7},
		}, {
			Name: "gamma", Cpus: 0b10000000, Key: key, Entry: 0x400ffc,
			Windows: []api.Window{window(0x400000, 0x45000000, 0x1000, rx)},
		}},
		Channels: []api.Channel{
			channel(0x47000000, 0x4000, end(0, rw, 0x10000000), end(1, rd, 0x20000000)),
			channel(0x47004000, 0x1000, end(2, wr, 0x10000000), end(0, rd, 0x10004000)),
			channel(0x47800000, 0x2000, end(1, rw, 0x20004000), end(2, rw, 0x10001000)),
		},
	}
}

// with is that system, changed.
func with(c api.Config, change func(c *api.Config)) api.Config {
	change(&c)
	return c
}

// held is one and the same list, laid ahead of something else that is no one's to read or to write.
func held[T any](l []T, behind T) []T {
	kept := append(slices.Clone(l), behind, behind)
	return kept[:len(l):len(kept)]
}

// guarded is c in memory of its own, with things behind each list that would break a rule.
func guarded(c api.Config) api.Config {
	c.Guests = held(c.Guests, api.Guest{Name: "behind", Cpus: 1 << 31, Windows: []api.Window{{}}})
	for i := range c.Guests {
		g := &c.Guests[i]
		g.Windows = held(g.Windows, window(1, 2, 3, 8))
		g.Devices = held(g.Devices, dev(4, 5, 6))
		g.Irqs = held(g.Irqs, api.Irq{Number: -7, Cpu: -8})
		g.Streams = held(g.Streams, 1<<32-1)
	}
	c.Channels = held(c.Channels, channel(7, 8, end(-1, 9, 10), end(-1, 9, 10)))
	return c
}

// whole is c with what lies behind its lists.
func whole(c api.Config) api.Config {
	c.Guests = slices.Clone(c.Guests[:cap(c.Guests)])
	for i := range c.Guests {
		g := &c.Guests[i]
		g.Windows = g.Windows[:cap(g.Windows)]
		g.Devices = g.Devices[:cap(g.Devices)]
		g.Irqs = g.Irqs[:cap(g.Irqs)]
		g.Streams = g.Streams[:cap(g.Streams)]
	}
	c.Channels = c.Channels[:cap(c.Channels)]
	return c
}

// emptied is c with every list that is nil empty, and every one that is empty nil.
func emptied(c api.Config) api.Config {
	c.Guests = turned(c.Guests)
	for i := range c.Guests {
		g := &c.Guests[i]
		g.Windows, g.Devices, g.Irqs, g.Streams = turned(g.Windows), turned(g.Devices), turned(g.Irqs), turned(g.Streams)
	}
	c.Channels = turned(c.Channels)
	return c
}

func turned[T any](l []T) []T {
	switch {
	case l == nil:
		return []T{}
	case len(l) == 0:
		return nil
	}
	return slices.Clone(l)
}

// check asks for that rule and that place (0 and 0: it may be), of the model too; and that the answer hangs on nothing else, and nothing is changed by asking.
func check(t *testing.T, what string, b api.Board, c api.Config, rule, where int) {
	t.Helper()
	want := api.ErrValid
	if rule == 0 {
		want = api.OK
	}
	if gr, gp, ge := model(b, c); gr != rule || gp != where || ge != want {
		t.Errorf("%s: the model has %d, %d, error %d; want %d, %d, error %d", what, gr, gp, ge, rule, where, want)
	}
	kept, mine := whole(guarded(c)), guarded(c)
	for range 2 {
		if gr, gp, ge := valid.Check(b, mine); gr != rule || gp != where || ge != want {
			t.Errorf("%s: %d, %d, error %d; want %d, %d, error %d", what, gr, gp, ge, rule, where, want)
		}
	}
	if !reflect.DeepEqual(whole(mine), kept) {
		t.Errorf("%s: what was passed in is changed", what)
	}
	if gr, gp, ge := valid.Check(b, emptied(c)); gr != rule || gp != where || ge != want {
		t.Errorf("%s, nil for empty: %d, %d, error %d; want %d, %d, error %d", what, gr, gp, ge, rule, where, want)
	}
}

// of asks it of three, changed, on the board.
func of(t *testing.T, what string, rule, where int, change func(c *api.Config)) {
	t.Helper()
	check(t, what, board(), with(three(), change), rule, where)
}

func TestExample(t *testing.T) { // the chapter's
	c := one()
	c.Guests[0].Windows[0].PA = loader - page
	check(t, "a window that reaches into Loader", board(), c, 4, 0)
	c = three()
	c.Guests[2].Windows[0].PA = loader
	check(t, "a window that reaches into Loader", board(), c, 4, 2)
}

func TestMay(t *testing.T) { // P17.1
	check(t, "one guest", board(), one(), 0, 0)
	check(t, "three guests", board(), three(), 0, 0)
	of(t, "no channels", 0, 0, func(c *api.Config) { c.Channels = nil })
	of(t, "a Version of 0", 0, 0, func(c *api.Config) { c.Version = 0 })
	of(t, "none mandatory, and other places in the flash", 0, 0, func(c *api.Config) {
		c.Guests[0].Mandatory, c.Guests[0].Off, c.Guests[0].Len = false, 1<<32-1, 1<<32-1
	})
	check(t, "sixteen guests", wide(), sixteen(), 0, 0)
	small := api.Board{Ram: sp(0, 2*page), Loader: sp(0, page), Cpus: 1}
	c := one()
	c.Guests[0].Windows[0] = window(0, page, page, rx)
	check(t, "the least board there is", small, c, 0, 0)
}

// wide is the greatest board there is.
func wide() api.Board {
	return api.Board{Ram: sp(0, top), Loader: sp(top/2, page), Irqs: 1020, Streams: 256, Cpus: 32}
}

// sixteen is a system of as much of everything as there may be.
func sixteen() api.Config {
	c := api.Config{Version: 1<<32 - 1}
	for n := range 16 {
		g := api.Guest{Name: fmt.Sprintf("guest-%d", n), Key: key, Cpus: 0x10001 << n, Entry: uint64(n) << 24, Dtb: uint64(n)<<24 + 0x100000}
		for i := range 16 {
			at := uint64(n<<24 + i<<20)
			g.Windows = append(g.Windows, window(at, at, 0x100000, 1+i%7|rx))
		}
		for i := range 60 {
			g.Irqs = append(g.Irqs, api.Irq{Number: 32 + 60*n + i, Cpu: n + 16*(i%2), Edge: i%3 == 0})
		}
		for i := range 16 {
			g.Streams = append(g.Streams, uint32(16*n+i))
		}
		c.Guests = append(c.Guests, g)
	}
	for i := range 32 {
		c.Channels = append(c.Channels, channel(1<<30+uint64(i)*page, page, end(i%16, 1+i%3, 1<<39+uint64(i)*page), end((i+1)%16, 3-i%3, 1<<38+uint64(i)*page)))
	}
	return c
}

// TestManyDevices: of a board with all the memory there is no device may lie beside it.
func TestManyDevices(t *testing.T) { // P17.1
	c := sixteen()
	for n := range c.Guests {
		for i := range 16 {
			at := top - uint64(n*16+i+1)*page
			c.Guests[n].Devices = append(c.Guests[n].Devices, dev(at, at, page))
		}
	}
	check(t, "memory wherever there are addresses", wide(), c, 5, 0)
	b := wide()
	b.Ram.Size = top - 256*page
	check(t, "sixteen devices of each", b, c, 0, 0)
	b.Ram.Size += page
	check(t, "the last one is in memory", b, c, 5, 15)
}
