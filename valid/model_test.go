package valid_test

import (
	"fmt"
	"math/big"
	"math/rand"
	"testing"

	"portreeve/api"
	"portreeve/cfg"
	"portreeve/mach"
	"portreeve/room"
	"portreeve/valid"
)

// stretch is a span in numbers that don't wrap: its first address, and the one behind its last.
type stretch struct{ lo, hi *big.Int }

func at(base, size uint64) stretch {
	lo := new(big.Int).SetUint64(base)
	return stretch{lo, new(big.Int).Add(lo, new(big.Int).SetUint64(size))}
}

func over(s api.Span) stretch { return at(s.Base, s.Size) }

func (s stretch) empty() bool { return s.lo.Cmp(s.hi) == 0 }
func (s stretch) within(in stretch) bool {
	return !s.empty() && in.lo.Cmp(s.lo) <= 0 && s.hi.Cmp(in.hi) <= 0
}
func (s stretch) meets(with stretch) bool { return s.lo.Cmp(with.hi) < 0 && with.lo.Cmp(s.hi) < 0 }
func (s stretch) ends() bool              { return s.hi.Cmp(big.NewInt(top)) <= 0 }

func paged(l ...uint64) bool {
	for _, n := range l {
		if n%page != 0 {
			return false
		}
	}
	return true
}

// model is P17.1, asked pair by pair; where an earlier rule doesn't hold a later one isn't asked.
func model(b api.Board, c api.Config) (int, int, api.Errno) {
	if mach.Fit(b) != api.OK {
		return 1, 0, api.ErrValid
	}
	if _, e := cfg.Put(c); e != api.OK {
		return 2, 0, api.ErrValid
	}
	for n := range c.Guests {
		for ahead := range n {
			if c.Guests[n].Name == c.Guests[ahead].Name {
				return 2, n, api.ErrValid
			}
		}
	}
	for n := range c.Guests {
		for i, holds := range []func(b api.Board, c api.Config, n int) bool{model3, model4, model5, model6, model7, model8, model9, model10} {
			if !holds(b, c, n) {
				return 3 + i, n, api.ErrValid
			}
		}
	}
	for n := range c.Channels {
		if !model11(b, c, n) {
			return 11, n, api.ErrValid
		}
		if !model12(c, n) {
			return 12, n, api.ErrValid
		}
	}
	for n := range c.Guests {
		if _, e := room.Maps(c, n); e != api.OK {
			return 13, n, api.ErrValid
		}
	}
	return 0, 0, api.OK
}

func model3(b api.Board, c api.Config, n int) bool {
	mine := uint64(c.Guests[n].Cpus)
	for _, g := range c.Guests[:n] {
		if mine&uint64(g.Cpus) != 0 {
			return false
		}
	}
	return mine != 0 && mine < 1<<b.Cpus
}

func model4(b api.Board, c api.Config, n int) bool {
	for _, win := range c.Guests[n].Windows {
		seen, real := at(win.IPA, win.Size), at(win.PA, win.Size)
		if !paged(win.IPA, win.PA, win.Size) || win.Size == 0 || !seen.ends() || win.Perm == 0 || !real.within(over(b.Ram)) || real.meets(over(b.Loader)) {
			return false
		}
	}
	return true
}

func model5(b api.Board, c api.Config, n int) bool {
	for _, d := range c.Guests[n].Devices {
		seen, real := at(d.IPA, d.Size), at(d.PA, d.Size)
		if !paged(d.IPA, d.PA, d.Size) || d.Size == 0 || !seen.ends() || !real.ends() || real.meets(over(b.Ram)) {
			return false
		}
	}
	return true
}

func model6(b api.Board, c api.Config, n int) bool {
	g := c.Guests[n]
	first := g.Windows[0]
	return g.Entry%4 == 0 && at(g.Entry, 1).within(at(first.IPA, first.Size)) && (first.Perm == rx || first.Perm == rwx)
}

func model7(b api.Board, c api.Config, n int) bool {
	g := c.Guests[n]
	if g.Dtb == 0 {
		return true
	}
	for i, win := range g.Windows {
		if i > 0 && paged(g.Dtb) && win.Perm%2 == 1 && at(g.Dtb, 16384).within(at(win.IPA, win.Size)) {
			return true
		}
	}
	return false
}

func model8(b api.Board, c api.Config, n int) bool {
	for i, q := range c.Guests[n].Irqs {
		if q.Number < 32 || q.Number > b.Irqs-1 || q.Cpu < 0 || q.Cpu > 31 || c.Guests[n].Cpus/(1<<q.Cpu)%2 == 0 {
			return false
		}
		for m, g := range c.Guests[:n+1] {
			for j, other := range g.Irqs {
				if (m != n || i != j) && other.Number == q.Number {
					return false
				}
			}
		}
	}
	return true
}

func model9(b api.Board, c api.Config, n int) bool {
	for i, s := range c.Guests[n].Streams {
		if int64(s) > int64(b.Streams-1) {
			return false
		}
		for m, g := range c.Guests[:n+1] {
			for j, other := range g.Streams {
				if (m != n || i != j) && other == s {
					return false
				}
			}
		}
	}
	return true
}

func reals(g api.Guest) []stretch {
	var l []stretch
	for _, win := range g.Windows {
		l = append(l, at(win.PA, win.Size))
	}
	for _, d := range g.Devices {
		l = append(l, at(d.PA, d.Size))
	}
	return l
}

func model10(b api.Board, c api.Config, n int) bool {
	for i, s := range reals(c.Guests[n]) {
		for m, g := range c.Guests[:n+1] {
			for j, other := range reals(g) {
				if (m != n || i != j) && s.meets(other) {
					return false
				}
			}
		}
	}
	return true
}

func model11(b api.Board, c api.Config, n int) bool {
	ch := c.Channels[n]
	s := at(ch.PA, ch.Size)
	if !paged(ch.PA, ch.Size) || ch.Size == 0 || !s.within(over(b.Ram)) || s.meets(over(b.Loader)) {
		return false
	}
	for _, g := range c.Guests {
		for _, win := range g.Windows {
			if s.meets(at(win.PA, win.Size)) {
				return false
			}
		}
	}
	for _, other := range c.Channels[:n] {
		if s.meets(at(other.PA, other.Size)) {
			return false
		}
	}
	return true
}

func model12(c api.Config, n int) bool {
	ch := c.Channels[n]
	for _, e := range ch.Ends {
		if e.Guest < 0 || e.Guest >= len(c.Guests) || e.Perm < 1 || e.Perm > 3 || !paged(e.IPA) || !at(e.IPA, ch.Size).ends() {
			return false
		}
	}
	return ch.Ends[0].Guest != ch.Ends[1].Guest
}

// apart is P17.2, of a configuration that may be.
func apart(t *testing.T, b api.Board, c api.Config) {
	t.Helper()
	var owners []int
	var l []stretch
	for n := range c.Guests {
		for _, s := range room.Physical(c, n) {
			owners, l = append(owners, n), append(l, over(s))
		}
	}
	for n, ch := range c.Channels {
		owners, l = append(owners, 100+n), append(l, at(ch.PA, ch.Size))
	}
	owners, l = append(owners, 200), append(l, over(b.Loader))
	for i := range l {
		for j := range i {
			if owners[i] != owners[j] && l[i].meets(l[j]) {
				t.Errorf("the memory of %d and that of %d overlap (a guest's number, 100 and a channel's, 200 for Loader): %+v", owners[i], owners[j], c)
			}
		}
	}
	for n := range c.Guests {
		if parts, e := room.Maps(c, n); e != api.OK || !room.Good(parts) {
			t.Errorf("guest %d has %v, error %d: %+v", n, parts, e, c)
		}
	}
}

func TestApart(t *testing.T) { // P17.2
	for _, c := range []api.Config{one(), three()} {
		apart(t, board(), c)
	}
	apart(t, wide(), sixteen())
}

// rolls makes systems that are often as they may be, or all but one thing of it.
type rolls struct{ *rand.Rand }

// among answers one of the numbers, of which the first ones are likely.
func (r rolls) among(l ...uint64) uint64 {
	if r.Intn(12) > 0 {
		return l[0]
	}
	return l[r.Intn(len(l))]
}

func (r rolls) perm(usual int) int { return int(r.among(uint64(usual), 0, 1, 2, 3, 4, 5, 6, 7)) }

// few is a small number of pages, seldom none, and seldom not whole.
func (r rolls) few() uint64 { return r.among(page*uint64(1+r.Intn(2)), 0, page+8, 4*page) }

func (r rolls) board() api.Board {
	b := api.Board{Ram: sp(64*page, 64*page), Loader: sp((64+uint64(r.Intn(63)))*page, page), Irqs: 34 + r.Intn(12), Streams: r.Intn(12), Cpus: 1 + r.Intn(12)}
	if r.Intn(60) == 0 {
		b.Loader.Size = 70 * page
	}
	return b
}

func (r rolls) guest(n int) api.Guest {
	g := api.Guest{Name: fmt.Sprint("g", r.among(uint64(n), 0, 1, 2)), Key: key, Cpus: uint32(r.among(1<<n, 0, 1, 2, 6, 1<<31))}
	ipa := func() uint64 { return r.among(page*uint64(r.Intn(96)), 8, top-page, last-page+1) }
	for i := range 1 + r.Intn(3) {
		g.Windows = append(g.Windows, window(ipa(), r.among(page*uint64(64+r.Intn(64)), 2048, page*63, top, last-page+1), r.few(), r.perm([]int{rx, rw, rd}[i])))
	}
	first := g.Windows[0]
	g.Entry = first.IPA + r.among(8, 2, first.Size-4, first.Size)
	if later := g.Windows[len(g.Windows)-1]; r.Intn(4) == 0 {
		g.Dtb = later.IPA + r.among(0, 8, page)
		g.Windows[len(g.Windows)-1].Size = r.among(4*page, 3*page, 5*page)
	}
	for range r.Intn(2) {
		g.Devices = append(g.Devices, dev(ipa(), page*r.among(uint64(r.Intn(64)), 64, 128, 140), r.few()))
	}
	for range r.Intn(2) {
		g.Irqs = append(g.Irqs, api.Irq{Number: int(r.among(uint64(32+r.Intn(6)), 31, 0, 1020)), Cpu: int(r.among(uint64(n), 0, 1, 31, 32, 33, 65535))})
	}
	for range r.Intn(2) {
		g.Streams = append(g.Streams, uint32(r.among(uint64(r.Intn(6)), 9, 256, 1<<32-1)))
	}
	return g
}

func (r rolls) config() api.Config {
	var c api.Config
	for n := range 1 + r.Intn(4) {
		c.Guests = append(c.Guests, r.guest(n))
	}
	for range r.Intn(3) {
		a := r.Intn(len(c.Guests))
		b := (a + 1) % len(c.Guests)
		ipa := func() uint64 { return r.among(page*uint64(r.Intn(96)), 8, top-page, last-page+1) }
		pa := r.among(page*uint64(64+r.Intn(64)), 2048, page*63, page*128)
		c.Channels = append(c.Channels, channel(pa, r.few(), end(a, r.perm(rw), ipa()), end(int(r.among(uint64(b), 0, 1, 4)), r.perm(rd), ipa())))
	}
	return c
}

// TestRandom: of all rules, and of systems that may be, there are enough.
func TestRandom(t *testing.T) { // P17.1, P17.2
	r := rolls{rand.New(rand.NewSource(17))}
	var seen [14]int
	for range 200000 {
		b, c := r.board(), r.config()
		rule, where, e := valid.Check(b, c)
		if wr, wp, we := model(b, c); wr != rule || wp != where || we != e {
			t.Fatalf("Check(%+v, %+v) = %d, %d, error %d; want %d, %d, error %d", b, c, rule, where, e, wr, wp, we)
		}
		if e == api.OK {
			apart(t, b, c)
		}
		seen[rule]++
	}
	for rule, n := range seen {
		if n < 200 {
			t.Errorf("rule %d was told %d times, which is too seldom", rule, n)
		}
	}
}
