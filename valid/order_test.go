package valid_test

import (
	"cmp"
	"fmt"
	"math"
	"math/rand"
	"slices"
	"testing"

	"portreeve/api"
	"portreeve/valid"
)

// breach breaks one rule at one place of three, on the board, and lets all others be.
type breach struct {
	rule, where int
	breaks      func(b *api.Board, c *api.Config)
}

// turn orders breaches as P17.1 asks: of rules 3 to 10 guest by guest, of 11 and 12 channel by channel.
func turn(a, b breach) int {
	stage := func(k breach) int {
		switch {
		case k.rule <= 2:
			return k.rule
		case k.rule <= 10:
			return 3
		case k.rule <= 12:
			return 4
		}
		return 5
	}
	return cmp.Or(cmp.Compare(stage(a), stage(b)), cmp.Compare(a.where, b.where), cmp.Compare(a.rule, b.rule))
}

// breaches are one of each rule at each place.
func breaches() []breach {
	l := []breach{
		{1, 0, func(b *api.Board, c *api.Config) { b.Irqs = 1021 }},
		{2, 0, func(b *api.Board, c *api.Config) { c.Guests[2].Key[0] = 1 }},
		{2, 1, func(b *api.Board, c *api.Config) { c.Guests[1].Name = c.Guests[0].Name }},
		{2, 2, func(b *api.Board, c *api.Config) { c.Guests[2].Name = c.Guests[0].Name }},
	}
	for g := range 3 {
		far := uint64(0x700000000 + g<<24)
		for i, breaks := range []func(g *api.Guest){
			func(g *api.Guest) { g.Cpus |= 1 << 20 },
			func(g *api.Guest) { g.Windows = append(g.Windows, window(far, free, page, 0)) },
			func(g *api.Guest) { g.Devices = append(g.Devices, dev(far+0x1000, 0x20000000, 0)) },
			func(g *api.Guest) { g.Entry += 2 },
			func(g *api.Guest) { g.Dtb += 8 },
			func(g *api.Guest) { g.Irqs = append(g.Irqs, api.Irq{Number: 31}) },
			func(g *api.Guest) { g.Streams = append(g.Streams, 16) },
			func(g *api.Guest) {
				g.Devices = append(g.Devices, dev(far+0x2000, 0x30000000, page), dev(far+0x3000, 0x30000000, page))
			},
			nil, nil,
			func(g *api.Guest) {
				g.Devices = append(g.Devices, dev(g.Windows[0].IPA, 0x31000000+g.Windows[0].PA-ram, page))
			},
		} {
			if breaks != nil {
				l = append(l, breach{3 + i, g, func(b *api.Board, c *api.Config) { breaks(&c.Guests[g]) }})
			}
		}
	}
	for n := range 3 {
		l = append(l,
			breach{11, n, func(b *api.Board, c *api.Config) { c.Channels[n].PA += 8 }},
			breach{12, n, func(b *api.Board, c *api.Config) { c.Channels[n].Ends[n%2].Perm = ex }})
	}
	slices.SortStableFunc(l, turn)
	return l
}

func TestEachAlone(t *testing.T) { // P17.1
	for _, k := range breaches() {
		b, c := board(), three()
		k.breaks(&b, &c)
		check(t, fmt.Sprint("rule ", k.rule, " at ", k.where), b, c, k.rule, k.where)
	}
}

// TestTwo: of any two that don't hold the first one is told.
func TestTwo(t *testing.T) { // P17.1
	l := breaches()
	for i, first := range l {
		for _, second := range l[i+1:] {
			b, c := board(), three()
			second.breaks(&b, &c)
			first.breaks(&b, &c)
			check(t, fmt.Sprint("rule ", first.rule, " at ", first.where, ", rule ", second.rule, " at ", second.where), b, c, first.rule, first.where)
		}
	}
}

// TestFromThere: of all that don't hold from one on that one is told.
func TestFromThere(t *testing.T) { // P17.1
	l := breaches()
	for i, first := range l {
		b, c := board(), three()
		for _, k := range l[i:] {
			k.breaks(&b, &c)
		}
		check(t, fmt.Sprint("all from rule ", first.rule, " at ", first.where), b, c, first.rule, first.where)
	}
}

// TestNamedPairs are those that stand where one round of questions ends and the next begins.
func TestNamedPairs(t *testing.T) { // P17.1
	at := func(rule, where int) breach {
		for _, k := range breaches() {
			if k.rule == rule && k.where == where {
				return k
			}
		}
		t.Fatalf("no breach of rule %d at %d", rule, where)
		return breach{}
	}
	for _, k := range [][4]int{
		{1, 0, 2, 0}, {1, 0, 2, 1}, {2, 0, 2, 1}, {2, 0, 3, 0}, {2, 2, 3, 0}, {3, 0, 4, 0}, {10, 0, 3, 1}, {10, 1, 3, 2}, {3, 1, 11, 0}, {10, 2, 11, 0},
		{11, 0, 12, 0}, {12, 0, 11, 1}, {12, 1, 11, 2}, {12, 2, 13, 0}, {13, 0, 13, 1}, {3, 2, 13, 0}, {10, 0, 13, 0}, {11, 2, 13, 0},
	} {
		first, second := at(k[0], k[1]), at(k[2], k[3])
		b, c := board(), three()
		first.breaks(&b, &c)
		second.breaks(&b, &c)
		check(t, fmt.Sprint(k), b, c, k[0], k[1])
	}
}

// odd answers numbers that lie at borders.
func odd(r *rand.Rand) uint64 {
	l := []uint64{0, 1, 2, 4, 7, 8, 31, 32, 33, 255, 256, 1019, 1020, 4095, page, page + 1, 2 * page, 16384, ram, loader, free, ramEnd, top - page, top, 1 << 63, last - page + 1, last, 1<<64 - 8}
	n := l[r.Intn(len(l))]
	if r.Intn(8) == 0 {
		n += uint64(r.Intn(5)) - 2
	}
	return n
}

func some[T any](r *rand.Rand, most int, build func() T) []T {
	var l []T
	for range r.Intn(most + 1) {
		l = append(l, build())
	}
	return l
}

// anything is whatever may be passed in.
func anything(r *rand.Rand) (api.Board, api.Config) {
	n := func() int { return int(odd(r)) }
	b := board()
	if r.Intn(2) == 0 {
		b = api.Board{Ram: sp(odd(r), odd(r)), Loader: sp(odd(r), odd(r)), Irqs: n(), Streams: n(), Cpus: n()}
	}
	guest := func() api.Guest {
		return api.Guest{
			Name: []string{"", "a", "b", "A", "\xff"}[r.Intn(5)], Cpus: uint32(odd(r)), Entry: odd(r), Dtb: odd(r), Key: [68]byte{3: byte(r.Intn(5))},
			Windows: some(r, 3, func() api.Window { return window(odd(r), odd(r), odd(r), n()) }),
			Devices: some(r, 2, func() api.Dev { return dev(odd(r), odd(r), odd(r)) }),
			Irqs:    some(r, 2, func() api.Irq { return api.Irq{Number: n(), Cpu: n()} }),
			Streams: some(r, 2, func() uint32 { return uint32(odd(r)) }),
		}
	}
	c := api.Config{Guests: some(r, 3, guest)}
	c.Channels = some(r, 2, func() api.Channel {
		return channel(odd(r), odd(r), end(n(), n(), odd(r)), end(n(), n(), odd(r)))
	})
	return b, c
}

func TestAnything(t *testing.T) { // P1, P17.1: no call panics, and each answers what the model has
	r := rand.New(rand.NewSource(1))
	for range 50000 {
		b, c := anything(r)
		rule, where, e := valid.Check(b, c)
		if wr, wp, we := model(b, c); rule != wr || where != wp || e != we {
			t.Fatalf("Check(%+v, %+v) = %d, %d, error %d; want %d, %d, error %d", b, c, rule, where, e, wr, wp, we)
		}
	}
	check(t, "nothing", api.Board{}, api.Config{}, 1, 0)
	check(t, "nothing on a board", board(), api.Config{}, 2, 0)
	check(t, "guests that nobody made", board(), api.Config{Guests: make([]api.Guest, 16), Channels: make([]api.Channel, 32)}, 2, 0)
}

// TestAnyField: of one that may be one field at a time is anything.
func TestAnyField(t *testing.T) { // P1, P17.1
	r := rand.New(rand.NewSource(2))
	for range 100000 {
		b, c := board(), three()
		for range 1 + r.Intn(2) {
			g, ch := &c.Guests[r.Intn(3)], &c.Channels[r.Intn(3)]
			win, dv, end := &g.Windows[r.Intn(len(g.Windows))], &c.Guests[r.Intn(2)].Devices[0], &ch.Ends[r.Intn(2)]
			q := &c.Guests[r.Intn(2)].Irqs[0]
			wide := []*uint64{&win.IPA, &win.PA, &win.Size, &dv.IPA, &dv.PA, &dv.Size, &ch.PA, &ch.Size, &end.IPA, &g.Entry, &g.Dtb, &b.Ram.Base, &b.Loader.Base, &b.Loader.Size}
			numbers := []*int{&win.Perm, &end.Perm, &end.Guest, &q.Number, &q.Cpu, &b.Irqs, &b.Streams, &b.Cpus}
			switch r.Intn(3) {
			case 0:
				*wide[r.Intn(len(wide))] = odd(r)
			case 1:
				*wide[r.Intn(len(wide))] += page*uint64(r.Intn(7)) - 3*page
			case 2:
				*numbers[r.Intn(len(numbers))] = []int{0, 1, 2, 3, 4, 5, 31, 32, 34, 63, 64, -1, math.MinInt, math.MaxInt}[r.Intn(14)]
			}
		}
		rule, where, e := valid.Check(b, c)
		if wr, wp, we := model(b, c); rule != wr || where != wp || e != we {
			t.Fatalf("Check(%+v, %+v) = %d, %d, error %d; want %d, %d, error %d", b, c, rule, where, e, wr, wp, we)
		}
		if e == api.OK {
			apart(t, b, c)
		}
	}
}
