package cfg_test

import (
	"fmt"
	"math"
	"math/rand"
	"testing"

	"portreeve/api"
	"portreeve/cfg"
)

func checkSame(t *testing.T, what string, a, b api.Config, want bool) {
	t.Helper()
	kept, other := normal(a), normal(b)
	if cfg.Same(a, b) != want || cfg.Same(b, a) != want {
		t.Errorf("%s: Same isn't %v", what, want)
	}
	if !alike(a, kept) || !alike(b, other) {
		t.Errorf("%s: Same changes what it is given", what)
	}
}

// changes each make another configuration of full.
func changes() map[string]func(c *api.Config) {
	l := map[string]func(c *api.Config){
		"version":         func(c *api.Config) { c.Version++ },
		"version's top":   func(c *api.Config) { c.Version ^= 1 << 31 },
		"no guests":       func(c *api.Config) { c.Guests = nil },
		"a guest less":    func(c *api.Config) { c.Guests = c.Guests[:1] },
		"a guest more":    func(c *api.Config) { c.Guests = append(c.Guests, api.Guest{}) },
		"guests' order":   func(c *api.Config) { c.Guests[0], c.Guests[1] = c.Guests[1], c.Guests[0] },
		"no channels":     func(c *api.Config) { c.Channels = nil },
		"a channel less":  func(c *api.Config) { c.Channels = c.Channels[:1] },
		"a channel more":  func(c *api.Config) { c.Channels = append(c.Channels, api.Channel{}) },
		"channels' order": func(c *api.Config) { c.Channels[0], c.Channels[1] = c.Channels[1], c.Channels[0] },
		"windows' order": func(c *api.Config) {
			w := c.Guests[0].Windows
			w[0], w[1] = w[1], w[0]
		},
		"streams' order": func(c *api.Config) {
			s := c.Guests[0].Streams
			s[0], s[2] = s[2], s[0]
		},
	}
	for _, part := range numbers() {
		l[part.name] = func(c *api.Config) { part.set(c, 0xfefefefefefefefe) }
	}
	for _, part := range boundedParts() {
		l[part.name] = func(c *api.Config) { part.set(c, 77777) }
	}
	for i := range 2 {
		g := func(c *api.Config) *api.Guest { return &c.Guests[i] }
		for name, change := range map[string]func(c *api.Config){
			"name": func(c *api.Config) { g(c).Name = "other" }, "a sign less": func(c *api.Config) { g(c).Name = g(c).Name[1:] },
			"a capital": func(c *api.Config) { g(c).Name = "L" + g(c).Name[1:] }, "no name": func(c *api.Config) { g(c).Name = "" }, "a byte 0": func(c *api.Config) { g(c).Name += "\x00" },
			"mandatory": func(c *api.Config) { g(c).Mandatory = !g(c).Mandatory },
			"key":       func(c *api.Config) { g(c).Key[0] ^= 1 }, "key's middle": func(c *api.Config) { g(c).Key[36] ^= 1 }, "key's end": func(c *api.Config) { g(c).Key[67] ^= 0x80 },
			"no windows": func(c *api.Config) { g(c).Windows = nil }, "a window more": func(c *api.Config) { g(c).Windows = append(g(c).Windows, api.Window{}) },
			"a device more": func(c *api.Config) { g(c).Devices = append(g(c).Devices, api.Dev{}) },
			"an irq more":   func(c *api.Config) { g(c).Irqs = append(g(c).Irqs, api.Irq{}) },
			"a stream more": func(c *api.Config) { g(c).Streams = append(g(c).Streams, 0) },
		} {
			l[fmt.Sprint(i, " ", name)] = change
		}
		l[fmt.Sprint("0 irq ", i, " edge")] = func(c *api.Config) { c.Guests[0].Irqs[i].Edge = !c.Guests[0].Irqs[i].Edge }
	}
	l["no devices"] = func(c *api.Config) { c.Guests[0].Devices = nil }
	l["no irqs"] = func(c *api.Config) { c.Guests[0].Irqs = nil }
	l["no streams"] = func(c *api.Config) { c.Guests[0].Streams = nil }
	l["a device less"] = func(c *api.Config) { c.Guests[0].Devices = c.Guests[0].Devices[:1] }
	l["an irq less"] = func(c *api.Config) { c.Guests[0].Irqs = c.Guests[0].Irqs[:1] }
	l["a stream less"] = func(c *api.Config) { c.Guests[0].Streams = c.Guests[0].Streams[:2] }
	return l
}

func TestSame(t *testing.T) { // P14.5: each part is told, one by one
	checkSame(t, "full", full(), full(), true)
	checkSame(t, "little", little(), little(), true)
	checkSame(t, "most", most(), most(), true)
	checkSame(t, "full and little", full(), little(), false)
	for what, change := range changes() {
		c := full()
		change(&c)
		checkSame(t, what, full(), c, false)
		checkSame(t, what+", itself", c, c, true)
		checkSame(t, what+", a copy", c, normal(c), true)
	}
}

func TestSameOfLastOnes(t *testing.T) { // P14.5: what stands last in the longest lists
	for i, change := range []func(g *api.Guest){
		func(g *api.Guest) { g.Windows[15].Perm = 6 },
		func(g *api.Guest) { g.Devices[15].Size = 6 },
		func(g *api.Guest) { g.Irqs[63].Edge = false },
		func(g *api.Guest) { g.Streams[31] = 6 },
	} {
		c := most()
		change(&c.Guests[15])
		checkSame(t, fmt.Sprint("the last guest's list ", i), most(), c, false)
	}
	c := most()
	c.Channels[31].Ends[1].IPA = 6
	checkSame(t, "the last channel", most(), c, false)
}

func TestSameOfNoLists(t *testing.T) { // P14.5 and P3: nil and empty are the same
	none, empty := api.Config{}, api.Config{Guests: []api.Guest{}, Channels: []api.Channel{}}
	checkSame(t, "nothing", none, none, true)
	checkSame(t, "nil and empty", none, empty, true)
	checkSame(t, "empty", empty, empty, true)
	a, b := little(), little()
	b.Channels = []api.Channel{}
	b.Guests[0].Devices, b.Guests[0].Irqs, b.Guests[0].Streams = []api.Dev{}, make([]api.Irq, 0, 4), []uint32{}
	checkSame(t, "a guest's lists", a, b, true)
	a.Guests[0].Windows, b.Guests[0].Windows = nil, b.Guests[0].Windows[:0]
	checkSame(t, "no windows", a, b, true)
	checkPutAlike(t, full(), func(c *api.Config) {
		c.Guests[1].Devices, c.Guests[1].Irqs, c.Guests[1].Streams = []api.Dev{}, []api.Irq{}, []uint32{}
	})
	checkPutAlike(t, little(), func(c *api.Config) { c.Channels = []api.Channel{} })
}

// checkPutAlike asks that Put writes c as it writes what change makes of it.
func checkPutAlike(t *testing.T, c api.Config, change func(c *api.Config)) {
	t.Helper()
	want := modelPut(c)
	change(&c)
	checkPut(t, "with empty lists", c, want)
}

func TestSameOfWhatMayNotBe(t *testing.T) { // P1, P14.5: no bound is asked
	wild := func() api.Config {
		return api.Config{Guests: append(make([]api.Guest, 40), api.Guest{Name: "Not A Name\x00 at all, é", Irqs: []api.Irq{{Number: math.MinInt, Cpu: math.MaxInt}}}),
			Channels: []api.Channel{{Ends: [2]api.End{{Guest: -1, Perm: math.MaxInt}, {Perm: math.MinInt}}}}}
	}
	checkSame(t, "wild", wild(), wild(), true)
	c := wild()
	c.Guests[40].Irqs[0].Cpu--
	checkSame(t, "an irq", wild(), c, false)
	c = wild()
	c.Channels[0].Ends[1].Perm++
	checkSame(t, "an end", wild(), c, false)
	c = wild()
	c.Guests[39].Windows = []api.Window{{}}
	checkSame(t, "a window", wild(), c, false)
}

func TestSameStaysWithinLengths(t *testing.T) { // P2
	a, b := full(), full()
	a.Guests, a.Channels = append(a.Guests, api.Guest{Off: 1})[:2], append(a.Channels, api.Channel{PA: 1})[:2]
	b.Guests, b.Channels = append(b.Guests, api.Guest{Off: 2})[:2], append(b.Channels, api.Channel{PA: 2})[:2]
	a.Guests[0].Streams, b.Guests[0].Streams = append(a.Guests[0].Streams, 1)[:3], append(b.Guests[0].Streams, 2)[:3]
	checkSame(t, "with more behind", a, b, true)
}

func TestSameOfAny(t *testing.T) { // P14.5: as the library tells it
	r := rand.New(rand.NewSource(5))
	for range 500 {
		a, b := anyConfig(r), anyConfig(r)
		checkSame(t, "itself", a, normal(a), true)
		checkSame(t, "another one", a, b, alike(a, b))
	}
}
