package room_test

import (
	"fmt"
	"math"
	"math/big"
	"math/rand"
	"slices"
	"sort"
	"testing"

	"portreeve/api"
	"portreeve/room"
)

const (
	page = 4096
	last = math.MaxUint64
	half = 1 << 63
	top  = 1 << 40
)

func sp(base, size uint64) api.Span { return api.Span{Base: base, Size: size} }

func window(ipa, pa, size uint64, perm int) api.Window {
	return api.Window{IPA: ipa, PA: pa, Size: size, Perm: perm}
}

func dev(ipa, pa, size uint64) api.Dev { return api.Dev{IPA: ipa, PA: pa, Size: size} }

func end(guest, perm int, ipa uint64) api.End { return api.End{Guest: guest, Perm: perm, IPA: ipa} }

func channel(pa, size uint64, a, b api.End) api.Channel {
	return api.Channel{PA: pa, Size: size, Ends: [2]api.End{a, b}}
}

func part(ipa, pa, size uint64, perm, kind int) api.Map {
	return api.Map{IPA: ipa, PA: pa, Size: size, Perm: perm, Kind: kind}
}

// one is a system of one guest.
func one(windows []api.Window, devices []api.Dev, channels ...api.Channel) api.Config {
	return api.Config{Guests: []api.Guest{{Windows: windows, Devices: devices}}, Channels: channels}
}

// between is a system of as many guests, none of which has a part but by those channels.
func between(guests int, channels ...api.Channel) api.Config {
	return api.Config{Guests: make([]api.Guest, guests), Channels: channels}
}

// bounds answers a span's first address and the one behind its last, as numbers that don't wrap, and whether it may be.
func bounds(base, size uint64) (lo, hi *big.Int, good bool) {
	lo = new(big.Int).SetUint64(base)
	hi = new(big.Int).Add(lo, new(big.Int).SetUint64(size))
	return lo, hi, size > 0 && hi.Cmp(new(big.Int).Lsh(big.NewInt(1), 64)) <= 0
}

// modelMaps is P16.1, pair by pair.
func modelMaps(c api.Config, g int) ([]api.Map, api.Errno) {
	if g < 0 || g >= len(c.Guests) {
		return nil, api.ErrRange
	}
	var l []api.Map
	for _, w := range c.Guests[g].Windows {
		l = append(l, part(w.IPA, w.PA, w.Size, w.Perm, 0))
	}
	for _, d := range c.Guests[g].Devices {
		l = append(l, part(d.IPA, d.PA, d.Size, 3, 1))
	}
	for _, ch := range c.Channels {
		for i := range 2 {
			if ch.Ends[i].Guest == g {
				l = append(l, part(ch.Ends[i].IPA, ch.PA, ch.Size, ch.Ends[i].Perm, 0))
			}
		}
	}
	for i, m := range l {
		lo, hi, seen := bounds(m.IPA, m.Size)
		if _, _, real := bounds(m.PA, m.Size); !seen || !real {
			return nil, api.ErrRoom
		}
		for _, other := range l[:i] {
			if olo, ohi, _ := bounds(other.IPA, other.Size); lo.Cmp(ohi) < 0 && olo.Cmp(hi) < 0 {
				return nil, api.ErrRoom
			}
		}
	}
	sort.SliceStable(l, func(i, j int) bool { return l[i].IPA < l[j].IPA })
	return l, api.OK
}

// checkMaps asks for just those parts, and no error.
func checkMaps(t *testing.T, what string, c api.Config, g int, want ...api.Map) {
	t.Helper()
	if l, e := room.Maps(c, g); e != api.OK || !slices.Equal(l, want) {
		t.Errorf("%s: %v, error %d, want %v", what, l, e, want)
	}
}

// checkError asks for that error, and no parts.
func checkError(t *testing.T, what string, c api.Config, g int, want api.Errno) {
	t.Helper()
	if l, e := room.Maps(c, g); e != want || len(l) != 0 {
		t.Errorf("%s: %v, error %d, want %d", what, l, e, want)
	}
}

// checkModel holds all that tells of guest g against the models.
func checkModel(t *testing.T, c api.Config, g int) {
	t.Helper()
	want, wantErr := modelMaps(c, g)
	l, e := room.Maps(c, g)
	if e != wantErr || !slices.Equal(l, want) {
		t.Fatalf("Maps(%+v, %d) = %v, error %d, want %v, %d", c, g, l, e, want, wantErr)
	}
	if got, want := room.Physical(c, g), modelPhysical(c, g); !slices.Equal(got, want) {
		t.Fatalf("Physical(%+v, %d) = %v, want %v", c, g, got, want)
	}
	if got, want := room.Shared(c, g), modelShared(c, g); !slices.Equal(got, want) {
		t.Fatalf("Shared(%+v, %d) = %v, want %v", c, g, got, want)
	}
}

func TestExample(t *testing.T) { // the chapter's
	c := one([]api.Window{window(0x2000, 0x40000000, page, 3), window(0x1000, 0x50000000, page, 5)}, nil)
	checkMaps(t, "the second one is told first", c, 0, part(0x1000, 0x50000000, page, 5, 0), part(0x2000, 0x40000000, page, 3, 0))
}

// none are the numbers of guests that a system of n doesn't have.
func none(n int) []int {
	return []int{-1, n, n + 1, math.MinInt, math.MinInt + 1, math.MaxInt, math.MaxInt - 1, -n, -n - 1, math.MinInt32, 1 << 32, 1 << 40, -1 << 32}
}

func TestNoGuest(t *testing.T) { // P16.1, P16.3
	for n := 1; n <= 3; n++ {
		c := api.Config{}
		for range n {
			c.Guests = append(c.Guests, api.Guest{Windows: []api.Window{window(0, 0, page, 1)}, Devices: []api.Dev{dev(page, 0, page)}})
		}
		for _, g := range none(n) { // an end that names such a guest makes it no guest
			c.Channels = append(c.Channels, channel(0, page, end(g, 1, 0), end(g, 1, page)))
		}
		for _, g := range none(n) {
			checkError(t, fmt.Sprint("guest ", g, " of ", n), c, g, api.ErrRange)
			checkModel(t, c, g)
			if l, s := room.Physical(c, g), room.Shared(c, g); len(l)+len(s) != 0 {
				t.Errorf("guest %d of %d: Physical %v, Shared %v", g, n, l, s)
			}
		}
		for g := range n {
			checkMaps(t, fmt.Sprint("guest ", g, " of ", n), c, g, part(0, 0, page, 1, 0), part(page, 0, page, 3, 1))
		}
	}
	for _, g := range append(none(1), 0) {
		for _, c := range []api.Config{{}, {Guests: []api.Guest{}}, between(0, channel(0, page, end(g, 1, 0), end(0, 1, page)))} {
			checkError(t, fmt.Sprint("guest ", g, " of none"), c, g, api.ErrRange)
			checkModel(t, c, g)
		}
	}
}

// TestRangeAhead: that there is no such guest goes ahead of what parts may not be.
func TestRangeAhead(t *testing.T) { // P4, P16.1
	c := one([]api.Window{window(0, 0, 0, 1)}, nil, channel(0, 0, end(1, 1, 0), end(-1, 1, 0)))
	checkError(t, "guest 0", c, 0, api.ErrRoom)
	checkError(t, "guest 1", c, 1, api.ErrRange)
	checkError(t, "guest -1", c, -1, api.ErrRange)
}

func TestFewParts(t *testing.T) { // P16.1
	checkMaps(t, "no part", one(nil, nil), 0)
	checkMaps(t, "no part, of lists that are empty", one([]api.Window{}, []api.Dev{}, []api.Channel{}...), 0)
	checkMaps(t, "one window", one([]api.Window{window(0x1000, 0x80002000, 0x3000, 6)}, nil), 0, part(0x1000, 0x80002000, 0x3000, 6, 0))
	checkMaps(t, "one device", one(nil, []api.Dev{dev(0x9000, 0x70005000, 0x2000)}), 0, part(0x9000, 0x70005000, 0x2000, 3, 1))
	checkMaps(t, "one end", one(nil, nil, channel(0x60007000, 0x4000, end(0, 5, 0xa000), end(1, 2, 0xb000))), 0, part(0xa000, 0x60007000, 0x4000, 5, 0))
	checkMaps(t, "addresses that no page begins at", one([]api.Window{window(5, 7, 3, 1)}, []api.Dev{dev(8, 3, 1)}), 0, part(5, 7, 3, 1, 0), part(8, 3, 1, 3, 1))
}

// TestPerms: Maps asks nothing of a Perm, and a device has its own.
func TestPerms(t *testing.T) { // P16.1
	for _, perm := range []int{1, 2, 3, 4, 5, 6, 7, 0, 8, -1, math.MinInt, math.MaxInt} {
		c := one([]api.Window{window(0x1000, 0, page, perm)}, []api.Dev{dev(0x2000, 0, page)}, channel(0, page, end(0, perm, 0x3000), end(1, 1, 0)))
		checkMaps(t, fmt.Sprint("Perm ", perm), c, 0, part(0x1000, 0, page, perm, 0), part(0x2000, 0, page, 3, 1), part(0x3000, 0, page, perm, 0))
	}
}

func TestEnds(t *testing.T) { // P16.1: each end that names the guest is a part, with what is its own
	a, b := end(0, 1, 0x10000), end(1, 2, 0x20000)
	c := between(3, channel(0x40000000, 0x2000, a, b))
	checkMaps(t, "the first end", c, 0, part(0x10000, 0x40000000, 0x2000, 1, 0))
	checkMaps(t, "the second end", c, 1, part(0x20000, 0x40000000, 0x2000, 2, 0))
	checkMaps(t, "neither end", c, 2)
	c = between(3, channel(0x40000000, 0x2000, end(1, 6, 0x30000), end(1, 5, 0x5000)))
	checkMaps(t, "both ends, of another guest", c, 0)
	checkMaps(t, "both ends", c, 1, part(0x5000, 0x40000000, 0x2000, 5, 0), part(0x30000, 0x40000000, 0x2000, 6, 0))
	c = between(2, channel(0x1000, page, end(2, 1, 0), end(-1, 1, 0)), channel(0x2000, page, end(math.MaxInt, 1, 0), end(1, 1, 0x7000)), channel(0x3000, page, end(1<<32, 1, 0), end(math.MinInt, 1, 0)))
	checkMaps(t, "guests that aren't there", c, 0)
	checkMaps(t, "beside a guest that isn't there", c, 1, part(0x7000, 0x2000, page, 1, 0))
	checkError(t, "both ends at one IPA", between(1, channel(0, page, end(0, 1, 0), end(0, 1, 0))), 0, api.ErrRoom)
	checkError(t, "both ends, by one address", between(1, channel(0, page, end(0, 1, 0), end(0, 1, page-1))), 0, api.ErrRoom)
	checkMaps(t, "both ends, touching", between(1, channel(0, page, end(0, 1, page), end(0, 2, 0))), 0, part(0, 0, page, 2, 0), part(page, 0, page, 1, 0))
}

// TestMany lays parts of all kinds, whose places by IPA are other than those in which they are named.
func TestMany(t *testing.T) { // P16.1
	r := rand.New(rand.NewSource(16))
	for range 200 {
		c := between(3)
		var want []api.Map
		for i, at := range r.Perm(48) {
			ipa, pa := uint64(at)*0x10000, uint64(r.Intn(1<<28))*page
			size, perm := uint64(1+r.Intn(16))*page, r.Intn(8)
			switch g := &c.Guests[1]; i % 3 {
			case 0:
				g.Windows = append(g.Windows, window(ipa, pa, size, perm))
			case 1:
				g.Devices = append(g.Devices, dev(ipa, pa, size))
				want = append(want, part(ipa, pa, size, 3, 1))
				continue
			default:
				ends := []api.End{end(1, perm, ipa), end(2*r.Intn(2), r.Intn(8), r.Uint64())}
				k := r.Intn(2)
				c.Channels = append(c.Channels, channel(pa, size, ends[k], ends[1-k]))
			}
			want = append(want, part(ipa, pa, size, perm, 0))
		}
		sort.Slice(want, func(i, j int) bool { return want[i].IPA < want[j].IPA })
		checkMaps(t, "48 parts", c, 1, want...)
		checkModel(t, c, 1)
	}
}

func TestOtherGuests(t *testing.T) { // P16.1: their parts count for nothing
	bad := api.Guest{
		Windows: []api.Window{window(0x1000, 0x1000, 0, 1), window(0x1000, 0x1000, page, 7), window(last, last, page, 7)},
		Devices: []api.Dev{dev(0x1000, 0x1000, page), dev(0, 0, 0)},
	}
	good := api.Guest{Windows: []api.Window{window(0x1000, 0x1000, page, 4)}}
	bads := []api.Channel{channel(0, 0, end(0, 1, 0x1000), end(2, 1, 0x1000)), channel(last, 2, end(2, 1, last), end(0, 1, 0x1000))}
	c := api.Config{Guests: []api.Guest{bad, good, bad}, Channels: bads}
	checkMaps(t, "between bad ones", c, 1, part(0x1000, 0x1000, page, 4, 0))
	checkError(t, "the first", c, 0, api.ErrRoom)
	checkError(t, "the last", c, 2, api.ErrRoom)
}

// TestRest: what else a system and its guests have changes nothing.
func TestRest(t *testing.T) { // P16.1
	c := api.Config{Version: 9, Guests: []api.Guest{{
		Name: "?", Mandatory: true, Off: 1, Len: 2, Cpus: 3, Entry: 0x1000, Dtb: 0x1001, Key: [68]byte{1},
		Windows: []api.Window{window(0x1000, 0, page, 1)}, Irqs: []api.Irq{{Number: 0x1000}}, Streams: []uint32{0x1000},
	}}}
	checkMaps(t, "all fields", c, 0, part(0x1000, 0, page, 1, 0))
}

// as answers systems in which parts a and b are guest 0's, by all kinds that two parts may be of.
func as(a, b api.Map) []api.Config {
	var l []api.Config
	for i := range 9 {
		c := between(1)
		for _, of := range []struct {
			kind int
			m    api.Map
		}{{i % 3, a}, {i / 3, b}} {
			g, m := &c.Guests[0], of.m
			switch of.kind {
			case 0:
				g.Windows = append(g.Windows, window(m.IPA, m.PA, m.Size, m.Perm))
			case 1:
				g.Devices = append(g.Devices, dev(m.IPA, m.PA, m.Size))
			default:
				c.Channels = append(c.Channels, channel(m.PA, m.Size, end(0, m.Perm, m.IPA), end(1, 0, 0)))
			}
		}
		l = append(l, c)
	}
	return l
}

func TestOverlaps(t *testing.T) { // P16.1
	for _, c := range []struct {
		what string
		a, b api.Map
		want api.Errno
	}{
		{"touching", part(0, 0, page, 1, 0), part(page, 0x9000, page, 1, 0), api.OK},
		{"by one address", part(0, 0, page, 1, 0), part(page-1, 0x9000, page, 1, 0), api.ErrRoom},
		{"by one address of few", part(10, 0, 5, 1, 0), part(14, 0x9000, 1, 1, 0), api.ErrRoom},
		{"touching, of few", part(10, 0, 5, 1, 0), part(15, 0x9000, 1, 1, 0), api.OK},
		{"within, in the midst", part(0, 0, 0x9000, 1, 0), part(0x3000, 0x90000, page, 1, 0), api.ErrRoom},
		{"within, at the beginning", part(0x1000, 0, 0x9000, 1, 0), part(0x1000, 0x90000, page, 1, 0), api.ErrRoom},
		{"within, at the end", part(0, 0, 0x9000, 1, 0), part(0x8000, 0x90000, page, 1, 0), api.ErrRoom},
		{"the same", part(0x1000, 0, page, 1, 0), part(0x1000, 0, page, 1, 0), api.ErrRoom},
		{"at one IPA", part(0x1000, 0, page, 1, 0), part(0x1000, 0x9000, page, 2, 0), api.ErrRoom},
		{"of the same PA", part(0x1000, 0x9000, page, 1, 0), part(0x3000, 0x9000, page, 2, 0), api.OK},
		{"of PA spans that overlap", part(0x1000, 0x9000, 0x2000, 1, 0), part(0x3000, 0xa000, 0x2000, 2, 0), api.OK},
		{"of PA spans within each other", part(0x10000, 0x9000, 0x8000, 1, 0), part(0x1000, 0xa000, page, 2, 0), api.OK},
		{"a PA that is the other's IPA", part(0x1000, 0x3000, page, 1, 0), part(0x3000, 0x1000, page, 2, 0), api.OK},
		{"at the very end", part(last, 0, 1, 1, 0), part(last, 0x9000, 1, 1, 0), api.ErrRoom},
		{"touching at the very end", part(last, 0, 1, 1, 0), part(last-1, 0x9000, 1, 1, 0), api.OK},
		{"halves", part(0, 0, half, 1, 0), part(half, half, half, 1, 0), api.OK},
		{"more than halves", part(0, 0, half+1, 1, 0), part(half, half, half, 1, 0), api.ErrRoom},
		{"all but one", part(1, 0, last, 1, 0), part(0, 0, 1, 1, 0), api.OK},
		{"all but another", part(0, 0, last, 1, 0), part(last, 0, 1, 1, 0), api.OK},
		{"all but one, and another", part(1, 0, last, 1, 0), part(last, 0, 1, 1, 0), api.ErrRoom},
	} {
		for _, s := range append(as(c.a, c.b), as(c.b, c.a)...) {
			if _, e := room.Maps(s, 0); e != c.want {
				t.Errorf("%s: error %d, want %d, of %+v", c.what, e, c.want, s)
			}
			checkModel(t, s, 0)
		}
	}
}

// TestFarOverlap: with others between and around, whichever is named first.
func TestFarOverlap(t *testing.T) { // P16.1
	r := rand.New(rand.NewSource(61))
	for i := range 16 {
		for _, over := range []uint64{0, 1} {
			windows := []api.Window{}
			for at := range uint64(16) {
				windows = append(windows, window(at*page, 0, page, 1))
			}
			windows[i].Size += over
			r.Shuffle(len(windows), func(i, j int) { windows[i], windows[j] = windows[j], windows[i] })
			c := one(windows, nil)
			checkModel(t, c, 0)
			if _, e := room.Maps(c, 0); (e == api.OK) != (over == 0 || i == 15) {
				t.Errorf("one that is %d longer at %d: error %d", over, i, e)
			}
		}
		windows := []api.Window{window(0, 0, 0x40000, 1)} // a long one, which those beside it don't tell
		for at := range uint64(16) {
			windows = append(windows, window(0x40000+at*page, 0, page, 1))
		}
		checkModel(t, one(windows, nil), 0)
		windows[1+i].IPA = uint64(i) * 0x1000
		c := one(windows, nil)
		checkError(t, "within a long one", c, 0, api.ErrRoom)
		slices.Reverse(windows)
		checkError(t, "within a long one", c, 0, api.ErrRoom)
	}
}

// edges are numbers at which sums of an address and a size go wrong.
func edges() []uint64 {
	return []uint64{0, 1, 2, page - 1, page, page + 1, half - 1, half, half + 1, last - page, last - page + 1, last - page + 2, last - 2, last - 1, last}
}

func TestSums(t *testing.T) { // P16.1
	for _, c := range []struct {
		what          string
		ipa, pa, size uint64
		want          api.Errno
	}{
		{"a Size of 0", 0, 0, 0, api.ErrRoom},
		{"a Size of 0 in the midst", 0x1000, 0x1000, 0, api.ErrRoom},
		{"a Size of 0 at the end", last, last, 0, api.ErrRoom},
		{"IPA + Size of 2^64 - 1", last - page, 0, page, api.OK},
		{"IPA + Size of 2^64", last - page + 1, 0, page, api.OK},
		{"IPA + Size beyond", last - page + 2, 0, page, api.ErrRoom},
		{"PA + Size of 2^64 - 1", 0, last - page, page, api.OK},
		{"PA + Size of 2^64", 0, last - page + 1, page, api.OK},
		{"PA + Size beyond", 0, last - page + 2, page, api.ErrRoom},
		{"both beyond", last, last, page, api.ErrRoom},
		{"both 2^64", last - page + 1, last - page + 1, page, api.OK},
		{"the greatest Size", 0, 0, last, api.OK},
		{"the greatest Size, up to 2^64", 1, 1, last, api.OK},
		{"the greatest Size, IPA beyond", 2, 0, last, api.ErrRoom},
		{"the greatest Size, PA beyond", 0, 2, last, api.ErrRoom},
	} {
		for _, s := range as(part(c.ipa, c.pa, c.size, 1, 0), part(0, 0, 0, 1, 0)) {
			g := &s.Guests[0] // only the one part
			switch {
			case len(g.Windows) > 0:
				g.Windows, g.Devices, s.Channels = []api.Window{window(c.ipa, c.pa, c.size, 1)}, nil, nil
			case len(g.Devices) > 0:
				g.Devices, s.Channels = []api.Dev{dev(c.ipa, c.pa, c.size)}, nil
			default:
				s.Channels = []api.Channel{channel(c.pa, c.size, end(3, 1, 0), end(0, 1, c.ipa))}
			}
			l, e := room.Maps(s, 0)
			if e != c.want || len(l) != 0 && e != api.OK || len(l) != 1 && e == api.OK {
				t.Errorf("%s: %v, error %d, want %d, of %+v", c.what, l, e, c.want, s)
			}
			checkModel(t, s, 0)
		}
	}
	for _, ipa := range edges() {
		for _, pa := range edges() {
			for _, size := range edges() {
				checkModel(t, one([]api.Window{window(ipa, pa, size, 1)}, nil), 0)
				checkModel(t, one(nil, []api.Dev{dev(ipa, pa, size)}), 0)
				checkModel(t, between(1, channel(pa, size, end(0, 2, ipa), end(1, 1, 0))), 0)
			}
		}
	}
}

// TestOneBad: one part that may not be spoils all, wherever it is named.
func TestOneBad(t *testing.T) { // P16.1
	for _, bad := range []api.Map{part(0x80000, 0, 0, 1, 0), part(0x80000, last, 2, 1, 0), part(last, 0, 2, 1, 0)} {
		for i := range 15 {
			c := between(2)
			for k := range 5 {
				m := part(uint64(k)*page, 0, page, 1, 0)
				if k == i%5 && i < 5 {
					m = bad
				}
				c.Guests[0].Windows = append(c.Guests[0].Windows, window(m.IPA, m.PA, m.Size, m.Perm))
				m = part(uint64(k+10)*page, 0, page, 1, 0)
				if k == i%5 && i >= 5 && i < 10 {
					m = bad
				}
				c.Guests[0].Devices = append(c.Guests[0].Devices, dev(m.IPA, m.PA, m.Size))
				m = part(uint64(k+20)*page, 0, page, 1, 0)
				if k == i%5 && i >= 10 {
					m = bad
				}
				c.Channels = append(c.Channels, channel(m.PA, m.Size, end(1, 1, uint64(k)*page), end(0, 1, m.IPA)))
			}
			checkError(t, fmt.Sprint(bad, " at ", i), c, 0, api.ErrRoom)
			checkModel(t, c, 1)
		}
	}
}

// random is a system whose spans are of few addresses, from base on.
func random(r *rand.Rand, base uint64) api.Config {
	at := func() uint64 { return base + uint64(r.Intn(24)) }
	size := func() uint64 { return uint64(1+r.Intn(4)) - uint64(r.Intn(12)/11) }
	c := between(1 + r.Intn(3))
	for g := range c.Guests {
		for range r.Intn(4) {
			c.Guests[g].Windows = append(c.Guests[g].Windows, window(at(), at(), size(), r.Intn(8)))
		}
		for range r.Intn(3) {
			c.Guests[g].Devices = append(c.Guests[g].Devices, dev(at(), at(), size()))
		}
	}
	for range r.Intn(4) {
		c.Channels = append(c.Channels, channel(at(), size(), end(r.Intn(5)-1, r.Intn(8), at()), end(r.Intn(5)-1, r.Intn(8), at())))
	}
	return c
}

func TestRandom(t *testing.T) { // P16.1, P16.3, P16.4
	r := rand.New(rand.NewSource(17))
	good, bad := 0, 0
	for i := range 30000 {
		base := []uint64{0, last - 25, last - 12, half - 12}[i%4]
		c := random(r, base)
		for g := -1; g <= len(c.Guests); g++ {
			checkModel(t, c, g)
			l, e := room.Maps(c, g)
			if e == api.ErrRoom {
				bad++
			} else if len(l) > 1 {
				good++
			}
			checkOnce(t, l, base)
		}
	}
	if good < 3000 || bad < 3000 {
		t.Error("too few of a kind:", good, bad)
	}
}

// checkOnce asks of each address about base how many parts have it.
func checkOnce(t *testing.T, l []api.Map, base uint64) {
	t.Helper()
	for k := range uint64(40) {
		at, n := base+k-6, 0
		for _, m := range l {
			if m.IPA <= at && at-m.IPA < m.Size {
				n++
			}
		}
		if _, _, is := room.At(l, at); n > 1 || is != (n == 1) {
			t.Fatalf("address %x is in %d of %v; At answers %v", at, n, l, is)
		}
	}
}

// TestVeryMany: in a time that a test has.
func TestVeryMany(t *testing.T) { // P16.1, P16.3
	const n = 100000
	c := between(2)
	for i := range uint64(n) {
		at := i * 7919 % n * 3
		c.Guests[1].Windows = append(c.Guests[1].Windows, window(at, i, 1, 1))
		c.Guests[1].Devices = append(c.Guests[1].Devices, dev(at+1, i, 1))
		c.Channels = append(c.Channels, channel(i, 1, end(1, 1, at+2), end(0, 1, i)))
	}
	l, e := room.Maps(c, 1)
	if e != api.OK || len(l) != 3*n {
		t.Fatal("error", e, "with", len(l))
	}
	for i, m := range l {
		if m.IPA != uint64(i) || m.Kind != i%3%2 {
			t.Fatal(i, m)
		}
	}
	if p, s := room.Physical(c, 1), room.Shared(c, 1); len(p) != 2*n || len(s) != n || p[n+5] != sp(5, 1) || s[n-1] != sp(n-1, 1) {
		t.Error("Physical", len(p), "Shared", len(s))
	}
	c.Guests[1].Windows[77].Size = 2
	checkError(t, "one that reaches too far", c, 1, api.ErrRoom)
}
