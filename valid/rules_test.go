package valid_test

import (
	"fmt"
	"math"
	"strings"
	"testing"

	"portreeve/api"
)

func TestRule1(t *testing.T) { // P17.1
	for _, k := range []struct {
		what   string
		change func(b *api.Board)
	}{
		{"no board", func(b *api.Board) { *b = api.Board{} }},
		{"Ram beside a page", func(b *api.Board) { b.Ram.Base += 8 }},
		{"Ram's Size beside a page", func(b *api.Board) { b.Ram.Size -= 8 }},
		{"Ram's Size of 0", func(b *api.Board) { b.Ram.Size = 0 }},
		{"Ram beyond 2^40", func(b *api.Board) { b.Ram.Size = top }},
		{"Ram that wraps", func(b *api.Board) { b.Ram.Size = last - page + 1 }},
		{"Loader beside a page", func(b *api.Board) { b.Loader.Base += 8 }},
		{"Loader's Size beside a page", func(b *api.Board) { b.Loader.Size += 8 }},
		{"Loader's Size of 0", func(b *api.Board) { b.Loader.Size = 0 }},
		{"Loader begins ahead of Ram", func(b *api.Board) { b.Loader.Base = ram - page }},
		{"Loader ends behind Ram", func(b *api.Board) { b.Loader.Base = ramEnd - page }},
		{"Loader that wraps", func(b *api.Board) { b.Loader.Size = last - page + 1 }},
		{"Irqs of -1", func(b *api.Board) { b.Irqs = -1 }},
		{"Irqs of 1021", func(b *api.Board) { b.Irqs = 1021 }},
		{"Streams of -1", func(b *api.Board) { b.Streams = -1 }},
		{"Streams of 257", func(b *api.Board) { b.Streams = 257 }},
		{"Cpus of -1", func(b *api.Board) { b.Cpus = -1 }},
		{"Cpus of 0", func(b *api.Board) { b.Cpus = 0 }},
		{"Cpus of 33", func(b *api.Board) { b.Cpus = 33 }},
		{"the least numbers", func(b *api.Board) { b.Irqs, b.Streams, b.Cpus = math.MinInt, math.MinInt, math.MinInt }},
		{"the greatest numbers", func(b *api.Board) { b.Irqs, b.Streams, b.Cpus = math.MaxInt, math.MaxInt, math.MaxInt }},
	} {
		b := board()
		k.change(&b)
		check(t, k.what, b, three(), 1, 0)
		check(t, k.what+", and no guest", b, api.Config{}, 1, 0)
	}
}

func TestRule2Put(t *testing.T) { // P17.1: where is 0, whichever guest it is
	for _, k := range []struct {
		what   string
		change func(c *api.Config)
	}{
		{"no configuration", func(c *api.Config) { *c = api.Config{} }},
		{"no guest at all", func(c *api.Config) { c.Guests = nil }},
		{"no guest, of a list that is empty", func(c *api.Config) { c.Guests = []api.Guest{} }},
		{"17 guests", func(c *api.Config) { *c = seventeen() }},
		{"33 channels", func(c *api.Config) { c.Channels = make([]api.Channel, 33) }},
		{"a guest without a window", func(c *api.Config) { c.Guests[1].Windows = nil }},
		{"a guest without a window, of a list that is empty", func(c *api.Config) { c.Guests[2].Windows = []api.Window{} }},
		{"17 windows", func(c *api.Config) { c.Guests[1].Windows = make([]api.Window, 17) }},
		{"17 devices", func(c *api.Config) { c.Guests[1].Devices = make([]api.Dev, 17) }},
		{"65 interrupts", func(c *api.Config) { c.Guests[1].Irqs = make([]api.Irq, 65) }},
		{"33 streams", func(c *api.Config) { c.Guests[1].Streams = make([]uint32, 33) }},
		{"a Perm of 8", func(c *api.Config) { c.Guests[1].Windows[1].Perm = 8 }},
		{"a Perm of -1", func(c *api.Config) { c.Guests[1].Windows[1].Perm = -1 }},
		{"an end's Perm of 8", func(c *api.Config) { c.Channels[2].Ends[1].Perm = 8 }},
		{"an end's Perm of -1", func(c *api.Config) { c.Channels[2].Ends[0].Perm = -1 }},
		{"a Number of -1", func(c *api.Config) { c.Guests[1].Irqs[0].Number = -1 }},
		{"a Number of 65536", func(c *api.Config) { c.Guests[1].Irqs[0].Number = 65536 }},
		{"a Number below all", func(c *api.Config) { c.Guests[1].Irqs[0].Number = math.MinInt }},
		{"a Cpu of -1", func(c *api.Config) { c.Guests[1].Irqs[0].Cpu = -1 }},
		{"a Cpu of 65536", func(c *api.Config) { c.Guests[1].Irqs[0].Cpu = 65536 }},
		{"a Cpu below all", func(c *api.Config) { c.Guests[1].Irqs[0].Cpu = math.MinInt }},
		{"an end's Guest of -1", func(c *api.Config) { c.Channels[2].Ends[1].Guest = -1 }},
		{"an end's Guest of 65536", func(c *api.Config) { c.Channels[2].Ends[1].Guest = 65536 }},
		{"an end's Guest below all", func(c *api.Config) { c.Channels[2].Ends[0].Guest = math.MinInt }},
		{"no name", func(c *api.Config) { c.Guests[1].Name = "" }},
		{"a great letter", func(c *api.Config) { c.Guests[1].Name = "Beta" }},
		{"a space", func(c *api.Config) { c.Guests[2].Name = "gam ma" }},
		{"17 signs", func(c *api.Config) { c.Guests[2].Name = strings.Repeat("g", 17) }},
		{"a Key without an Oid", func(c *api.Config) { c.Guests[1].Key = [68]byte{} }},
		{"a Key of an Oid that there isn't", func(c *api.Config) { c.Guests[2].Key = [68]byte{3: 4} }},
	} {
		of(t, k.what, 2, 0, k.change)
		of(t, k.what+", and two of one Name", 2, 0, func(c *api.Config) {
			c.Guests[1].Name = "alpha"
			k.change(c)
		})
	}
	of(t, "16 signs", 0, 0, func(c *api.Config) { c.Guests[2].Name = "0123456789-abcyz" })
}

// seventeen is a system of one guest more than there may be.
func seventeen() api.Config {
	c := sixteen()
	c.Guests = append(c.Guests, one().Guests[0])
	return c
}

func TestRule2Names(t *testing.T) { // P17.1
	name := func(l ...string) func(c *api.Config) {
		return func(c *api.Config) {
			for i, s := range l {
				c.Guests[i].Name = s
			}
		}
	}
	of(t, "the second has the first one's", 2, 1, name("one", "one", "two"))
	of(t, "the third has the first one's", 2, 2, name("one", "two", "one"))
	of(t, "the third has the second one's", 2, 2, name("two", "one", "one"))
	of(t, "all have one", 2, 1, name("one", "one", "one"))
	of(t, "names that begin alike", 0, 0, name("one", "one-", "on"))
	c := sixteen()
	c.Guests[15].Name, c.Guests[14].Name = c.Guests[0].Name, c.Guests[13].Name
	check(t, "two pairs", wide(), c, 2, 14)
	c.Guests[14].Name = "guest-14"
	check(t, "the last has the first one's", wide(), c, 2, 15)
}

func TestRule3(t *testing.T) { // P17.1
	cpus := func(g int, mask uint32) func(c *api.Config) {
		return func(c *api.Config) {
			c.Guests[g].Cpus = mask
			c.Guests[g].Irqs = nil
		}
	}
	for g := range 3 {
		of(t, "Cpus of 0", 3, g, cpus(g, 0))
		of(t, "one that nobody else has", 0, 0, cpus(g, 1<<5))
		of(t, "two that nobody else has", 0, 0, cpus(g, 1<<5|1<<6))
		of(t, "one behind the board's last", 3, g, cpus(g, 1<<8))
		of(t, "one behind the board's last, beside another", 3, g, cpus(g, 1<<5|1<<8))
		of(t, "the highest bit", 3, g, cpus(g, 1<<31))
		of(t, "all bits", 3, g, cpus(g, 1<<32-1))
	}
	of(t, "the board's last", 0, 0, cpus(2, 1<<7))
	of(t, "the first one's first", 3, 1, cpus(1, 1))
	of(t, "the first one's second", 3, 2, cpus(2, 2))
	of(t, "the second one's", 3, 2, cpus(2, 1<<4))
	of(t, "the second one's beside another", 3, 2, cpus(2, 1<<4|1<<6))
	of(t, "one that a guest behind has", 3, 2, cpus(0, 1<<7))
	of(t, "one that the next has", 3, 1, cpus(0, 1<<4))
	for n := 1; n <= 32; n++ {
		b, c := board(), one()
		b.Cpus = n
		c.Guests[0].Cpus = 1 << (n - 1)
		check(t, fmt.Sprint("the last of ", n), b, c, 0, 0)
		c.Guests[0].Cpus = uint32(1<<n - 1)
		check(t, fmt.Sprint("all of ", n), b, c, 0, 0)
		if n < 32 {
			c.Guests[0].Cpus = 1 << n
			check(t, fmt.Sprint("the one behind ", n), b, c, 3, 0)
			c.Guests[0].Cpus |= 1
			check(t, fmt.Sprint("the first one, and the one behind ", n), b, c, 3, 0)
		}
	}
}

// windowOf puts a window behind those that guest g has.
func windowOf(g int, win api.Window) func(c *api.Config) {
	return func(c *api.Config) { c.Guests[g].Windows = append(c.Guests[g].Windows, win) }
}

func deviceOf(g int, d api.Dev) func(c *api.Config) {
	return func(c *api.Config) { c.Guests[g].Devices = append(c.Guests[g].Devices, d) }
}

func TestRule4(t *testing.T) { // P17.1
	const ipa = 0x700000000
	for _, k := range []struct {
		what string
		win  api.Window
		rule int
	}{
		{"as it must be", window(ipa, free, page, rd), 0},
		{"a byte behind a page's IPA", window(ipa+1, free, page, rd), 4},
		{"a byte ahead of a page's IPA", window(ipa-1, free, page, rd), 4},
		{"half a page's IPA", window(ipa+page/2, free, page, rd), 4},
		{"a byte behind a page's PA", window(ipa, free+1, page, rd), 4},
		{"a byte ahead of a page's PA", window(ipa, free-1, page, rd), 4},
		{"half a page's PA", window(ipa, free+page/2, page, rd), 4},
		{"a Size a byte more", window(ipa, free, page+1, rd), 4},
		{"a Size a byte less", window(ipa, free, page-1, rd), 4},
		{"a Size of half a page", window(ipa, free, page/2, rd), 4},
		{"a Size of 0", window(ipa, free, 0, rd), 4},
		{"all 0", api.Window{}, 4},
		{"IPA + Size of 2^40", window(top-2*page, free, 2*page, rd), 0},
		{"IPA + Size a page more", window(top-page, free, 2*page, rd), 4},
		{"IPA of 2^40", window(top, free, page, rd), 4},
		{"IPA + Size of 2^64", window(last-page+1, free, page, rd), 4},
		{"IPA + Size wraps", window(last-page+1, free, 2*page, rd), 4},
		{"PA of 2^40", window(ipa, top, page, rd), 4},
		{"PA + Size of 2^64", window(ipa, last-page+1, page, rd), 4},
		{"PA + Size wraps", window(ipa, last-page+1, 2*page, rd), 4},
		{"PA + Size wraps into Ram", window(ipa, 0x50000000, last-0x10000000+1+page, rd), 4},
		{"both wrap", window(page, page, last-page+1, rd), 4},
		{"a Perm of 0", window(ipa, free, page, 0), 4},
		{"a Perm of 1", window(ipa, free, page, 1), 0},
		{"a Perm of 2", window(ipa, free, page, 2), 0},
		{"a Perm of 4", window(ipa, free, page, 4), 0},
		{"a Perm of 7", window(ipa, free, page, 7), 0},
		{"from Ram's first page on", window(ipa, ram, page, rd), 0},
		{"up to Ram's last page", window(ipa, ramEnd-page, page, rd), 0},
		{"from a page ahead of Ram on", window(ipa, ram-page, 2*page, rd), 4},
		{"up to a page behind Ram", window(ipa, ramEnd-page, 2*page, rd), 4},
		{"a page ahead of Ram", window(ipa, ram-page, page, rd), 4},
		{"a page behind Ram", window(ipa, ramEnd, page, rd), 4},
		{"all of Ram", window(ipa, ram, ramEnd-ram, rd), 4},
		{"around Ram", window(ipa, ram-page, ramEnd-ram+2*page, rd), 4},
		{"0 is no memory", window(ipa, 0, page, rd), 4},
		{"up to Loader", window(ipa, loader-2*page, 2*page, rd), 0},
		{"from Loader's end on", window(ipa, loaderEnd, 2*page, rd), 0},
		{"a page into Loader from below", window(ipa, loader-page, 2*page, rd), 4},
		{"a page into Loader from above", window(ipa, loaderEnd-page, 2*page, rd), 4},
		{"Loader's first page", window(ipa, loader, page, rd), 4},
		{"Loader's last page", window(ipa, loaderEnd-page, page, rd), 4},
		{"within Loader", window(ipa, loader+page, page, rd), 4},
		{"all of Loader", window(ipa, loader, loaderEnd-loader, rd), 4},
		{"around Loader", window(ipa, loader-page, loaderEnd-loader+2*page, rd), 4},
	} {
		for g := range 3 {
			of(t, k.what, k.rule, g*min(k.rule, 1), windowOf(g, k.win))
		}
	}
}

// TestRule4All: the first window of a guest is asked, and those in the midst.
func TestRule4All(t *testing.T) { // P17.1
	for i := range 3 {
		of(t, "a Perm of 0", 4, 1, func(c *api.Config) { c.Guests[1].Windows[i].Perm = 0 })
		of(t, "a Size of 0", 4, 1, func(c *api.Config) { c.Guests[1].Windows[i].Size = 0 })
		of(t, "in Loader", 4, 1, func(c *api.Config) { c.Guests[1].Windows[i].PA = loader })
	}
	b := board()
	b.Loader = sp(ram, page)
	c := one()
	check(t, "Loader at Ram's first page", b, c, 4, 0)
	c.Guests[0].Windows[0].PA = ram + page
	check(t, "behind it", b, c, 0, 0)
	b.Loader = b.Ram
	check(t, "all of Ram is Loader", b, c, 4, 0)
}

func TestRule5(t *testing.T) { // P17.1
	const ipa, pa = 0x700000000, 0x20000000
	for _, k := range []struct {
		what string
		d    api.Dev
		rule int
	}{
		{"as it must be", dev(ipa, pa, page), 0},
		{"a byte behind a page's IPA", dev(ipa+1, pa, page), 5},
		{"a byte ahead of a page's IPA", dev(ipa-1, pa, page), 5},
		{"half a page's IPA", dev(ipa+page/2, pa, page), 5},
		{"a byte behind a page's PA", dev(ipa, pa+1, page), 5},
		{"a byte ahead of a page's PA", dev(ipa, pa-1, page), 5},
		{"half a page's PA", dev(ipa, pa+page/2, page), 5},
		{"a Size a byte more", dev(ipa, pa, page+1), 5},
		{"a Size a byte less", dev(ipa, pa, page-1), 5},
		{"a Size of half a page", dev(ipa, pa, page/2), 5},
		{"a Size of 0", dev(ipa, pa, 0), 5},
		{"all 0", api.Dev{}, 5},
		{"IPA + Size of 2^40", dev(top-2*page, pa, 2*page), 0},
		{"IPA + Size a page more", dev(top-page, pa, 2*page), 5},
		{"IPA of 2^40", dev(top, pa, page), 5},
		{"IPA + Size of 2^64", dev(last-page+1, pa, page), 5},
		{"IPA + Size wraps", dev(last-page+1, pa, 2*page), 5},
		{"PA + Size of 2^40", dev(ipa, top-2*page, 2*page), 0},
		{"PA + Size a page more", dev(ipa, top-page, 2*page), 5},
		{"PA of 2^40", dev(ipa, top, page), 5},
		{"PA + Size of 2^64", dev(ipa, last-page+1, page), 5},
		{"PA + Size wraps", dev(ipa, last-page+1, 2*page), 5},
		{"both of 2^40", dev(top-page, top-page, page), 0},
		{"both wrap", dev(0x80000000, 0x80000000, last-page+1), 5},
		{"a PA of 0", dev(ipa, 0, page), 0},
		{"up to Ram", dev(ipa, ram-2*page, 2*page), 0},
		{"from Ram's end on", dev(ipa, ramEnd, 2*page), 0},
		{"a page into Ram from below", dev(ipa, ram-page, 2*page), 5},
		{"a page into Ram from above", dev(ipa, ramEnd-page, 2*page), 5},
		{"Ram's first page", dev(ipa, ram, page), 5},
		{"Ram's last page", dev(ipa, ramEnd-page, page), 5},
		{"within Ram", dev(ipa, free, page), 5},
		{"in Loader", dev(ipa, loader, page), 5},
		{"all of Ram", dev(ipa, ram, ramEnd-ram), 5},
		{"around Ram", dev(ipa, ram-page, ramEnd-ram+2*page), 5},
	} {
		for g := range 3 {
			of(t, k.what, k.rule, g*min(k.rule, 1), deviceOf(g, k.d))
		}
	}
	for i := range 2 {
		of(t, "each is asked", 5, 1, func(c *api.Config) { c.Guests[1].Devices[i].Size = 0 })
	}
}

func TestRule6(t *testing.T) { // P17.1: guest 1 has three windows, the first of which is the highest
	enter := func(at uint64) func(c *api.Config) { return func(c *api.Config) { c.Guests[1].Entry = at } }
	for _, k := range []struct {
		what string
		at   uint64
		rule int
	}{
		{"the first address", 0x80000000, 0},
		{"the first address of an instruction behind it", 0x80000004, 0},
		{"the last address of an instruction", 0x801ffffc, 0},
		{"no multiple of 4, by 1", 0x80000001, 6},
		{"no multiple of 4, by 2", 0x80000002, 6},
		{"no multiple of 4, by 3", 0x80000003, 6},
		{"no multiple of 4, at the end", 0x801ffffe, 6},
		{"the last address", 0x801fffff, 6},
		{"just ahead of it", 0x7ffffffc, 6},
		{"just behind it", 0x80200000, 6},
		{"in the second window", 0x100000, 6},
		{"in the third window", 0x300000, 6},
		{"in a device", 0x9000000, 6},
		{"in a channel", 0x20000000, 6},
		{"by its PA", 0x40400000, 6},
		{"0", 0, 6},
		{"the last one there is", last - 3, 6},
	} {
		of(t, k.what, k.rule, min(k.rule, 1), enter(k.at))
	}
	of(t, "0, in a window", 0, 0, func(c *api.Config) { c.Guests[0].Entry = 0 })
	for perm := range 8 {
		rule, where := 6, 2
		switch perm {
		case 0:
			rule = 4
		case rx, rwx:
			rule, where = 0, 0
		}
		of(t, fmt.Sprint("a first window of Perm ", perm), rule, where, func(c *api.Config) { c.Guests[2].Windows[0].Perm = perm })
	}
	of(t, "a later one with Exec", 6, 2, func(c *api.Config) {
		c.Guests[2].Windows[0].Perm = rd
		windowOf(2, window(0x800000, free, page, rwx))(c)
		c.Guests[2].Entry = 0x800000
	})
	of(t, "one ahead of the first window, in a later one", 6, 1, func(c *api.Config) {
		c.Guests[1].Windows[2] = window(0x7ffff000, 0x40700000, page, rwx)
		c.Guests[1].Dtb, c.Guests[1].Entry = 0, 0x7ffffffc
	})
}

func TestRule7(t *testing.T) { // P17.1: the third window of guest 1 has 16,384 bytes, the second one a page, the first one many
	tree := func(at uint64) func(c *api.Config) { return func(c *api.Config) { c.Guests[1].Dtb = at } }
	for _, k := range []struct {
		what string
		at   uint64
		rule int
	}{
		{"in a later one", 0x300000, 0},
		{"none", 0, 0},
		{"a byte behind it", 0x300001, 7},
		{"a word behind it", 0x300008, 7},
		{"a byte ahead of it", 0x2fffff, 7},
		{"a page behind it", 0x301000, 7},
		{"a page ahead of it", 0x2ff000, 7},
		{"behind the window", 0x304000, 7},
		{"in a window without Read", 0x100000, 7},
		{"in the first window", 0x80000000, 7},
		{"in the midst of the first window", 0x80100000, 7},
		{"in a device", 0x8000000, 7},
		{"in a channel", 0x20000000, 7},
		{"in no window", 0x600000, 7},
		{"by its PA", 0x40700000, 7},
		{"the last page there is", last - page + 1, 7},
		{"the last address there is", last, 7},
	} {
		of(t, k.what, k.rule, min(k.rule, 1), tree(k.at))
	}
	for perm := 1; perm < 8; perm++ {
		rule := 7 * (1 - perm%2)
		of(t, fmt.Sprint("in a window of Perm ", perm), rule, min(rule, 1), func(c *api.Config) { c.Guests[1].Windows[2].Perm = perm })
	}
	of(t, "of a guest with one window", 7, 2, func(c *api.Config) { c.Guests[2].Dtb = 0x400000 })
	of(t, "of a guest with one window that is large", 7, 2, func(c *api.Config) { c.Guests[2].Windows[0].Size, c.Guests[2].Dtb = 0x10000, 0x401000 })
}

func TestRule7Room(t *testing.T) { // P17.1: how much stands from Dtb on
	large := func(at uint64) func(c *api.Config) {
		return func(c *api.Config) {
			c.Guests[1].Windows[1] = window(0x500000, free, 8*page, rw)
			c.Guests[1].Dtb = at
		}
	}
	for i := range uint64(8) {
		rule := 0
		if i > 4 {
			rule = 7
		}
		of(t, fmt.Sprint(8-i, " pages stand"), rule, min(rule, 1), large(0x500000+i*page))
		of(t, fmt.Sprint(8-i, " pages stand, but for 4 bytes"), 7, 1, large(0x500000+i*page+4))
	}
	of(t, "three pages in a row with another window", 7, 1, func(c *api.Config) {
		c.Guests[1].Windows[1] = window(0x500000, free, 3*page, rw)
		c.Guests[1].Windows[2] = window(0x503000, free+3*page, page, rw)
		c.Guests[1].Dtb = 0x500000
	})
	of(t, "up to 2^40", 0, 0, func(c *api.Config) {
		c.Guests[1].Windows[1] = window(top-4*page, free, 4*page, rw)
		c.Guests[1].Dtb = top - 4*page
	})
	of(t, "up to 2^40, a page fewer", 7, 1, func(c *api.Config) {
		c.Guests[1].Windows[1] = window(top-4*page, free, 4*page, rw)
		c.Guests[1].Dtb = top - 3*page
	})
}

// TestRule7Overlapping: rule 7 asks for some window, whatever else has that IPA; that is for rule 13 to tell.
func TestRule7Overlapping(t *testing.T) { // P17.1
	put := func(a, b api.Window) func(c *api.Config) {
		return func(c *api.Config) {
			c.Guests[1].Windows[1], c.Guests[1].Windows[2] = a, b
			c.Guests[1].Dtb = a.IPA
		}
	}
	good, blind, small := window(0x500000, free, 4*page, rd), window(0x500000, free+8*page, 4*page, wr), window(0x500000, free+12*page, 3*page, rd)
	of(t, "one without Read ahead", 13, 1, put(blind, good))
	of(t, "one without Read behind", 13, 1, put(good, blind))
	of(t, "a small one ahead", 13, 1, put(small, good))
	of(t, "a small one behind", 13, 1, put(good, small))
	of(t, "neither", 7, 1, put(blind, small))
	of(t, "where the first one is, too", 13, 1, func(c *api.Config) {
		c.Guests[1].Windows[1] = window(0x80000000, free, 4*page, rd)
		c.Guests[1].Dtb = 0x80000000
	})
}

func TestRule8(t *testing.T) { // P17.1
	irq := func(g, number, cpu int) func(c *api.Config) {
		return func(c *api.Config) {
			c.Guests[g].Irqs = append(c.Guests[g].Irqs, api.Irq{Number: number, Cpu: cpu})
		}
	}
	for _, k := range []struct{ number, rule int }{{0, 8}, {1, 8}, {30, 8}, {31, 8}, {32, 0}, {35, 0}, {62, 0}, {63, 0}, {64, 8}, {65, 8}, {1019, 8}, {1020, 8}, {65535, 8}} {
		for g, cpu := range []int{1, 2, 7} {
			of(t, fmt.Sprint("a Number of ", k.number), k.rule, g*min(k.rule, 1), irq(g, k.number, cpu))
		}
	}
	for g, cpu := range []int{0, 4, 7} {
		for _, number := range []int{33, 34, 40} {
			where := g // the later one of both that have it
			if number == 40 {
				where = max(g, 1)
			}
			of(t, fmt.Sprint("twice ", number), 8, where, irq(g, number, cpu))
		}
	}
	for cpu := range 32 {
		rule := 0
		if cpu != 2 && cpu != 4 {
			rule = 8
		}
		of(t, fmt.Sprint("a Cpu of ", cpu), rule, min(rule, 1), irq(1, 50, cpu))
	}
	for _, cpu := range []int{32, 33, 34, 36, 63, 64, 66, 68, 65535, 65534} {
		of(t, fmt.Sprint("a Cpu of ", cpu), 8, 1, irq(1, 50, cpu))
	}
	of(t, "twice by one guest, by other processors", 8, 0, func(c *api.Config) {
		c.Guests[0].Irqs = []api.Irq{{Number: 50}, {Number: 51}, {Number: 50, Cpu: 1, Edge: true}}
	})
	of(t, "each is asked", 8, 0, func(c *api.Config) { c.Guests[0].Irqs[0].Cpu = 2 })
	of(t, "none", 0, 0, func(c *api.Config) { c.Guests[0].Irqs = nil })
}

// TestRule8Board: what there is depends on the board.
func TestRule8Board(t *testing.T) { // P17.1
	b, c := board(), one()
	b.Cpus = 32
	c.Guests[0].Cpus = 1<<31 | 1
	for _, irqs := range []int{0, 1, 31, 32, 33, 34, 1019, 1020} {
		for _, number := range []int{0, 31, 32, 33, irqs - 1, irqs, irqs + 1} {
			b.Irqs = irqs
			rule := 8
			if number >= 32 && number < irqs {
				rule = 0
			}
			for _, cpu := range []int{0, 31} {
				c.Guests[0].Irqs = []api.Irq{{Number: number, Cpu: cpu}}
				want := rule
				if number < 0 {
					want = 2
				}
				check(t, fmt.Sprint("interrupt ", number, " of ", irqs), b, c, want, 0)
			}
			for _, cpu := range []int{1, 30, 32, 63} {
				c.Guests[0].Irqs = []api.Irq{{Number: max(number, 0), Cpu: cpu}}
				check(t, fmt.Sprint("interrupt ", number, " of ", irqs, " at ", cpu), b, c, 8, 0)
			}
		}
	}
}

func TestRule9(t *testing.T) { // P17.1
	stream := func(g int, l ...uint32) func(c *api.Config) {
		return func(c *api.Config) { c.Guests[g].Streams = append(c.Guests[g].Streams, l...) }
	}
	for g := range 3 {
		of(t, "the first", 0, 0, stream(g, 0))
		of(t, "the board's last", 0, 0, stream(g, 15))
		of(t, "the one behind it", 9, g, stream(g, 16))
		of(t, "256", 9, g, stream(g, 256))
		of(t, "2^31", 9, g, stream(g, 1<<31))
		of(t, "the last there is", 9, g, stream(g, 1<<32-1))
		of(t, "twice by one guest", 9, g, stream(g, 9, 9))
		of(t, "twice by one guest, with another between", 9, g, stream(g, 9, 10, 9))
		of(t, "the first one's", 9, g, stream(g, 2))
		of(t, "the second one's", 9, max(g, 1), stream(g, 7))
		of(t, "none", 0, 0, func(c *api.Config) { c.Guests[g].Streams = nil })
	}
	b, c := board(), one()
	b.Streams = 0
	check(t, "no streams on the board", b, c, 0, 0)
	c.Guests[0].Streams = []uint32{0}
	check(t, "no streams on the board, one of the guest", b, c, 9, 0)
	b.Streams = 256
	c.Guests[0].Streams = []uint32{255, 0}
	check(t, "as many as there may be", b, c, 0, 0)
	c.Guests[0].Streams = []uint32{255, 256}
	check(t, "one more", b, c, 9, 0)
}

func TestRule10(t *testing.T) { // P17.1
	const ipa = 0x700000000
	for g := range 3 {
		both := func(a, b api.Window) func(c *api.Config) {
			return func(c *api.Config) {
				windowOf(g, a)(c)
				windowOf(g, b)(c)
			}
		}
		of(t, "two windows that touch", 0, 0, both(window(ipa, free, 2*page, rd), window(ipa+page*8, free+2*page, page, rd)))
		of(t, "two windows that touch, the later ahead", 0, 0, both(window(ipa, free+2*page, 2*page, rd), window(ipa+page*8, free, 2*page, rd)))
		of(t, "two windows that overlap by a page", 10, g, both(window(ipa, free, 2*page, rd), window(ipa+page*8, free+page, 2*page, rd)))
		of(t, "two windows that overlap by a page, the later ahead", 10, g, both(window(ipa, free+page, 2*page, rd), window(ipa+page*8, free, 2*page, rd)))
		of(t, "two windows of one PA", 10, g, both(window(ipa, free, page, rd), window(ipa+page*8, free, page, wr)))
		of(t, "one within the other", 10, g, both(window(ipa, free, 8*page, rd), window(ipa+page*8, free+page, page, rd)))
		of(t, "one around the other", 10, g, both(window(ipa, free+page, page, rd), window(ipa+page*8, free, 8*page, rd)))
		devices := func(a, b api.Dev) func(c *api.Config) {
			return func(c *api.Config) {
				deviceOf(g, a)(c)
				deviceOf(g, b)(c)
			}
		}
		of(t, "two devices that touch", 0, 0, devices(dev(ipa, 0x20000000, page), dev(ipa+page*8, 0x20001000, page)))
		of(t, "two devices that overlap by a page", 10, g, devices(dev(ipa, 0x20000000, 2*page), dev(ipa+page*8, 0x20001000, page)))
		of(t, "two devices of one PA", 10, g, devices(dev(ipa, 0x20000000, page), dev(ipa+page*8, 0x20000000, page)))
		of(t, "the first one's first window", 10, g, windowOf(g, window(ipa, 0x401ff000, page, rd)))
		of(t, "the first one's second window", 10, g, windowOf(g, window(ipa, 0x40200000, page, rd)))
		of(t, "the second one's first window, by a page", 10, max(g, 1), windowOf(g, window(ipa, 0x405ff000, 2*page, rd)))
		of(t, "the second one's last window, by a page", 10, max(g, 1), windowOf(g, window(ipa, 0x406ff000, 2*page, rd)))
		of(t, "the third one's window", 10, 2, windowOf(g, window(ipa, 0x45000000, page, rd)))
		of(t, "the first one's device", 10, g, deviceOf(g, dev(ipa, 0x9001000, page)))
		of(t, "the second one's devices, by a page each", 10, max(g, 1), deviceOf(g, dev(ipa, 0xa000000, 2*page)))
		of(t, "beside the second one's windows", 0, 0, windowOf(g, window(ipa, 0x40300000, 0x100000, rd)))
		of(t, "beside the second one's devices", 0, 0, deviceOf(g, dev(ipa, 0xa002000, page)))
	}
	of(t, "each at the address of the other", 0, 0, func(c *api.Config) {
		c.Guests[2].Windows[0].IPA, c.Guests[2].Entry = 0, 0
	})
}

func TestRule11(t *testing.T) { // P17.1
	for _, k := range []struct {
		what     string
		pa, size uint64
		rule     int
	}{
		{"as it must be", free, page, 0},
		{"a byte behind a page", free + 1, page, 11},
		{"a byte ahead of a page", free - 1, page, 11},
		{"half a page", free + page/2, page, 11},
		{"a Size a byte more", free, page + 1, 11},
		{"a Size a byte less", free, page - 1, 11},
		{"a Size of half a page", free, page / 2, 11},
		{"a Size of 0", free, 0, 11},
		{"all 0", 0, 0, 11},
		{"from Ram's first page on", ram, page, 0},
		{"up to Ram's last page", ramEnd - page, page, 0},
		{"from a page ahead of Ram on", ram - page, 2 * page, 11},
		{"up to a page behind Ram", ramEnd - page, 2 * page, 11},
		{"a page ahead of Ram", ram - page, page, 11},
		{"a page behind Ram", ramEnd, page, 11},
		{"all of Ram", ram, ramEnd - ram, 11},
		{"0 is no memory", 0, page, 11},
		{"behind 2^40", top, page, 11},
		{"up to 2^64", last - page + 1, page, 11},
		{"wraps", last - page + 1, 2 * page, 11},
		{"wraps into Ram", 0x50000000, last - 0x10000000 + 1 + page, 11},
		{"a device's", 0x9000000, page, 11},
		{"up to Loader", loader - 2*page, 2 * page, 0},
		{"from Loader's end on", loaderEnd, page, 0},
		{"a page into Loader from below", loader - page, 2 * page, 11},
		{"a page into Loader from above", loaderEnd - page, 2 * page, 11},
		{"within Loader", loader + page, page, 11},
		{"around Loader", loader - page, loaderEnd - loader + 2*page, 11},
		{"up to the first one's windows", 0x400ff000, page, 0},
		{"from the first one's windows on", 0x40210000, page, 0},
		{"the first one's first window, from below", 0x400ff000, 2 * page, 11},
		{"the first one's second window, from above", 0x4020f000, 2 * page, 11},
		{"the second one's second window", 0x40600000, page, 11},
		{"around the second one's second window", 0x405ff000, 3 * page, 11},
		{"the second one's third window", 0x40703000, page, 11},
		{"the third one's window", 0x45000000, page, 11},
		{"beside the third one's window", 0x45001000, page, 0},
		{"up to the first channel", 0x46fff000, page, 0},
		{"from the second channel on", 0x47005000, page, 0},
		{"the first channel, from below", 0x46fff000, 2 * page, 11},
		{"the second channel, from above", 0x47004000, 2 * page, 11},
		{"the second channel", 0x47004000, page, 11},
		{"the third channel's second page", 0x47801000, page, 11},
	} {
		of(t, k.what, k.rule, 3*min(k.rule, 1), func(c *api.Config) {
			c.Channels = append(c.Channels, channel(k.pa, k.size, end(0, rd, 0x70000000), end(2, rd, 0x70000000)))
		})
	}
	for i := range 3 {
		of(t, "each is asked", 11, i, func(c *api.Config) { c.Channels[i].Size = 0 })
		of(t, "each is asked", 11, i, func(c *api.Config) { c.Channels[i].PA += 8 })
		of(t, "each is asked", 11, i, func(c *api.Config) { c.Channels[i].PA = 0x40200000 })
	}
	of(t, "the first has the third one's", 11, 2, func(c *api.Config) { c.Channels[0].PA = c.Channels[2].PA })
	of(t, "the first has the second one's", 11, 1, func(c *api.Config) { c.Channels[0].PA = c.Channels[1].PA })
}

func TestRule12(t *testing.T) { // P17.1
	for i := range 3 {
		for k := range 2 {
			put := func(change func(e, other *api.End)) func(c *api.Config) {
				return func(c *api.Config) { change(&c.Channels[i].Ends[k], &c.Channels[i].Ends[1-k]) }
			}
			for _, n := range []int{3, 4, 16, 255, 65535} {
				of(t, fmt.Sprint("an end of guest ", n), 12, i, put(func(e, _ *api.End) { e.Guest = n }))
			}
			of(t, "both ends of one guest", 12, i, put(func(e, other *api.End) { e.Guest = other.Guest }))
			of(t, "both ends of the last guest", 12, i, put(func(e, other *api.End) { e.Guest, other.Guest = 2, 2 }))
			of(t, "both ends of a guest that isn't there", 12, i, put(func(e, other *api.End) { e.Guest, other.Guest = 3, 3 }))
			for perm := range 8 {
				rule := 12
				if perm >= 1 && perm <= 3 {
					rule = 0
				}
				of(t, fmt.Sprint("a Perm of ", perm), rule, i*min(rule, 1), put(func(e, _ *api.End) { e.Perm = perm }))
			}
			for _, off := range []uint64{1, 8, page / 2, page - 1} {
				of(t, "an IPA off a page", 12, i, put(func(e, _ *api.End) { e.IPA += off }))
			}
			size := three().Channels[i].Size
			for _, m := range []struct {
				what string
				ipa  uint64
				rule int
			}{
				{"IPA + Size of 2^40", top - size, 0},
				{"IPA + Size a page more", top - size + page, 12},
				{"IPA of 2^40", top, 12},
				{"IPA + Size of 2^64", last - size + 1, 12},
				{"IPA + Size wraps, or is 2^64", last - page + 1, 12},
				{"the last IPA there is", last, 12},
			} {
				of(t, m.what, m.rule, i*min(m.rule, 1), put(func(e, _ *api.End) { e.IPA = m.ipa }))
			}
		}
	}
	of(t, "ends that have changed places", 0, 0, func(c *api.Config) {
		for i := range c.Channels {
			l := &c.Channels[i].Ends
			l[0], l[1] = l[1], l[0]
		}
	})
	of(t, "both ends at one IPA, of two guests", 0, 0, func(c *api.Config) { c.Channels[0].Ends[1].IPA = 0x10000000 })
	c := one()
	c.Channels = []api.Channel{channel(free, page, end(0, rd, 0x70000000), end(1, rd, 0x70000000))}
	check(t, "a channel of one guest and nobody", board(), c, 12, 0)
	c.Channels[0].Ends[1].Guest = 0
	check(t, "a channel of one guest with itself", board(), c, 12, 0)
}

func TestRule13(t *testing.T) { // P17.1
	for g, first := range []uint64{0, 0x80000000, 0x400000} {
		behind := first + []uint64{0x100000, 0x200000, 0x1000}[g]
		for _, k := range []struct {
			what string
			ipa  uint64
			rule int
		}{
			{"at the first window", first, 13},
			{"at the first window's last page", behind - page, 13},
			{"behind the first window", behind, 0},
			{"apart", 0x700000000, 0},
		} {
			where := g * min(k.rule, 1)
			of(t, "a window "+k.what, k.rule, where, windowOf(g, window(k.ipa, free, page, rd)))
			of(t, "a device "+k.what, k.rule, where, deviceOf(g, dev(k.ipa, 0x20000000, page)))
			for side := range 2 {
				of(t, "an end "+k.what, k.rule, where, func(c *api.Config) {
					ch := channel(free, page, end((g+1)%3, rd, 0x600000000), end((g+1)%3, rd, 0x600000000))
					ch.Ends[side] = end(g, rd, k.ipa)
					c.Channels = append(c.Channels, ch)
				})
			}
		}
	}
	of(t, "a window that ends where a page of the first begins", 13, 1, windowOf(1, window(0x7ffff000, free, 2*page, rd)))
	of(t, "a window up to the first", 0, 0, windowOf(1, window(0x7fffe000, free, 2*page, rd)))
	of(t, "two devices", 13, 1, func(c *api.Config) { c.Guests[1].Devices[0].IPA = c.Guests[1].Devices[1].IPA })
	of(t, "a device and an end", 13, 0, func(c *api.Config) { c.Channels[0].Ends[0].IPA = 0x8ffd000 })
	of(t, "a device and an end that touch", 0, 0, func(c *api.Config) { c.Channels[0].Ends[0].IPA = 0x8ffc000 })
	of(t, "two ends", 13, 0, func(c *api.Config) { c.Channels[1].Ends[1].IPA = 0x10003000 })
	of(t, "two ends of the last guest", 13, 2, func(c *api.Config) { c.Channels[2].Ends[1].IPA = 0x10000000 })
	of(t, "of several guests the first", 13, 1, func(c *api.Config) {
		windowOf(2, window(0x400000, free, page, rd))(c)
		windowOf(1, window(0x80000000, free+page, page, rd))(c)
	})
}
