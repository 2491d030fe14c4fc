package cfg_test

import (
	"bytes"
	"encoding/binary"
	"encoding/hex"
	"fmt"
	"math"
	"math/rand"
	"reflect"
	"slices"
	"strings"
	"testing"

	"portreeve/api"
	"portreeve/cfg"
)

// key is one of this Oid, the other bytes of which count on from n.
func key(oid uint32, n byte) (k [68]byte) {
	binary.BigEndian.PutUint32(k[:], oid)
	for i := range 64 {
		k[4+i] = n + byte(i)
	}
	return k
}

// full has everything in it, and no two numbers that are the same; fields are its bytes.
func full() api.Config {
	return api.Config{
		Version: 0x89abcdef,
		Guests: []api.Guest{{
			Name: "linux-0", Mandatory: true, Off: 0x01020304, Len: 0x85060708, Cpus: 0x090a0b0c,
			Entry: 0x9112131415161718, Dtb: 0x191a1b1c1d1e1f20, Key: key(2, 0x21),
			Windows: []api.Window{
				{IPA: 0x6162636465666768, PA: 0xe96a6b6c6d6e6f70, Size: 0x7172737475767778, Perm: 7},
				{IPA: 0x797a7b7c7d7e7f80, PA: 0x8182838485868788, Size: 0x898a8b8c8d8e8f90, Perm: 2},
			},
			Devices: []api.Dev{
				{IPA: 0x9192939495969798, PA: 0x999a9b9c9d9e9fa0, Size: 0xa1a2a3a4a5a6a7a8},
				{IPA: 0xa9aaabacadaeafb0, PA: 0xb1b2b3b4b5b6b7b8, Size: 0xb9babbbcbdbebfc0},
			},
			Irqs:    []api.Irq{{Number: 0xc1c2, Cpu: 0xc3c4, Edge: true}, {Number: 0x00c5, Cpu: 0xc600}},
			Streams: []uint32{0xc7c8c9ca, 0x4bcccdce, 5},
		}, {
			Name: "0123456789-abcyz", Off: 0xcfd0d1d2, Len: 0xd3d4d5d6, Cpus: 0xd7d8d9da,
			Entry: 0x5bdcdddedfe0e1e2, Dtb: 0xe3e4e5e6e7e8e9ea, Key: key(3, 0xa0),
			Windows: []api.Window{{IPA: 0xebecedeeeff0f1f2, PA: 0x73f4f5f6f7f8f9fa, Size: 0xfbfcfdfeff000102, Perm: 1}},
		}},
		Channels: []api.Channel{
			{PA: 0x0304050607080910, Size: 0x9091929394959697, Ends: [2]api.End{{Guest: 0xf1f2, Perm: 3, IPA: 0x1011121314151617}, {Guest: 1, Perm: 6, IPA: 0xa0a1a2a3a4a5a6a7}}},
			{PA: 0x2021222324252627, Size: 0x3031323334353637, Ends: [2]api.End{{Guest: 0x00f3, Perm: 5, IPA: 0x4041424344454647}, {Guest: 0xf400, Perm: 4, IPA: 0x5051525354555657}}},
		},
	}
}

// counting are n bytes in base 16, from one on.
func counting(from byte, n int) string {
	b := make([]byte, n)
	for i := range b {
		b[i] = from + byte(i)
	}
	return hex.EncodeToString(b)
}

// field is of full's bytes: name tells which one it is, kind what it may be.
type field struct{ name, kind, hex string }

// fields are laid by hand, as P14.1 tells.
func fields() []field {
	return slices.Concat([]field{
		{"magic", "magic", "42434647"}, {"format", "format", "0001"}, {"guests", "guests", "0002"},
		{"channels", "channels", "0002"}, {"nought", "nought", "0000"}, {"version", "", "89abcdef"},

		{"0 name", "name", "6c696e75782d30" + "000000000000000000"}, {"0 flags", "flag", "00000001"},
		{"0 off", "", "01020304"}, {"0 len", "", "85060708"}, {"0 cpus", "", "090a0b0c"},
		{"0 entry", "", "9112131415161718"}, {"0 dtb", "", "191a1b1c1d1e1f20"},
		{"0 key", "key", "00000002" + counting(0x21, 64)},
		{"0 windows", "windows", "0002"}, {"0 devices", "devices", "0002"}, {"0 irqs", "irqs", "0002"}, {"0 streams", "streams", "0003"},
		{"0 window 0 ipa", "", "6162636465666768"}, {"0 window 0 pa", "", "e96a6b6c6d6e6f70"}, {"0 window 0 size", "", "7172737475767778"}, {"0 window 0 perm", "perm4", "00000007"},
		{"0 window 1 ipa", "", "797a7b7c7d7e7f80"}, {"0 window 1 pa", "", "8182838485868788"}, {"0 window 1 size", "", "898a8b8c8d8e8f90"}, {"0 window 1 perm", "perm4", "00000002"},
		{"0 device 0 ipa", "", "9192939495969798"}, {"0 device 0 pa", "", "999a9b9c9d9e9fa0"}, {"0 device 0 size", "", "a1a2a3a4a5a6a7a8"},
		{"0 device 1 ipa", "", "a9aaabacadaeafb0"}, {"0 device 1 pa", "", "b1b2b3b4b5b6b7b8"}, {"0 device 1 size", "", "b9babbbcbdbebfc0"},
		{"0 irq 0 number", "", "c1c2"}, {"0 irq 0 cpu", "", "c3c4"}, {"0 irq 0 edge", "flag", "00000001"},
		{"0 irq 1 number", "", "00c5"}, {"0 irq 1 cpu", "", "c600"}, {"0 irq 1 edge", "flag", "00000000"},
		{"0 stream 0", "", "c7c8c9ca"}, {"0 stream 1", "", "4bcccdce"}, {"0 stream 2", "", "00000005"},

		{"1 name", "name", "303132333435363738392d616263797a"}, {"1 flags", "flag", "00000000"},
		{"1 off", "", "cfd0d1d2"}, {"1 len", "", "d3d4d5d6"}, {"1 cpus", "", "d7d8d9da"},
		{"1 entry", "", "5bdcdddedfe0e1e2"}, {"1 dtb", "", "e3e4e5e6e7e8e9ea"},
		{"1 key", "key", "00000003" + counting(0xa0, 64)},
		{"1 windows", "windows", "0001"}, {"1 devices", "devices", "0000"}, {"1 irqs", "irqs", "0000"}, {"1 streams", "streams", "0000"},
		{"1 window 0 ipa", "", "ebecedeeeff0f1f2"}, {"1 window 0 pa", "", "73f4f5f6f7f8f9fa"}, {"1 window 0 size", "", "fbfcfdfeff000102"}, {"1 window 0 perm", "perm4", "00000001"},
	}, channelFields("0", "0304050607080910", "9091929394959697", "f1f2", "0003", "1011121314151617", "0001", "0006", "a0a1a2a3a4a5a6a7"),
		channelFields("1", "2021222324252627", "3031323334353637", "00f3", "0005", "4041424344454647", "f400", "0004", "5051525354555657"))
}

func channelFields(n string, l ...string) []field {
	n = "channel " + n
	return []field{
		{n + " pa", "", l[0]}, {n + " size", "", l[1]},
		{n + " end 0 guest", "", l[2]}, {n + " end 0 perm", "perm2", l[3]}, {n + " end 0 ipa", "", l[4]},
		{n + " end 1 guest", "", l[5]}, {n + " end 1 perm", "perm2", l[6]}, {n + " end 1 ipa", "", l[7]},
	}
}

// bytesOf are those of a text in base 16.
func bytesOf(text string) []byte {
	b, err := hex.DecodeString(strings.ReplaceAll(text, " ", ""))
	if err != nil {
		panic(err)
	}
	return b
}

// fullBytes answers the bytes of full, and where each field stands.
func fullBytes() ([]byte, map[string]int) {
	var b []byte
	places := map[string]int{}
	for _, f := range fields() {
		places[f.name] = len(b)
		b = append(b, bytesOf(f.hex)...)
	}
	return b, places
}

// with is b with other bytes at a place.
func with(b []byte, at int, other []byte) []byte {
	b = slices.Clone(b)
	copy(b[at:at+len(other)], other)
	return b
}

// little has as little in it as may be; littleBytes are its bytes.
func little() api.Config {
	return api.Config{Guests: []api.Guest{{Name: "a", Key: [68]byte{3: 1}, Windows: []api.Window{{}}}}}
}

func littleBytes() []byte {
	return bytesOf("42434647 0001 0001 0000 0000 00000000" +
		"61000000000000000000000000000000 00000000 00000000 00000000 00000000 0000000000000000 0000000000000000" +
		"00000001" + strings.Repeat("00", 64) + "0001 0000 0000 0000" +
		"0000000000000000 0000000000000000 0000000000000000 00000000")
}

// alone is the guest of this number, with lists of these lengths.
func alone(n, windows, devices, irqs, streams int) api.Guest {
	g := api.Guest{Name: fmt.Sprintf("guest-%d", n), Mandatory: n%2 == 0, Off: uint32(n), Key: key(uint32(1+n%3), byte(n))}
	for i := range windows {
		g.Windows = append(g.Windows, api.Window{IPA: uint64(i), PA: uint64(n), Size: 1, Perm: i % 8})
	}
	for i := range devices {
		g.Devices = append(g.Devices, api.Dev{IPA: uint64(i), PA: uint64(n), Size: 2})
	}
	for i := range irqs {
		g.Irqs = append(g.Irqs, api.Irq{Number: i % 65536, Cpu: n % 65536, Edge: i%2 == 1})
	}
	for i := range streams {
		g.Streams = append(g.Streams, uint32(1000*n+i))
	}
	return g
}

func channels(n int) []api.Channel {
	var l []api.Channel
	for i := range n {
		l = append(l, api.Channel{PA: uint64(i), Size: 3, Ends: [2]api.End{{Guest: i % 65536, Perm: i % 8, IPA: 4}, {Guest: 5, Perm: 6, IPA: uint64(i)}}})
	}
	return l
}

// most has as much in it as may be.
func most() api.Config {
	c := api.Config{Version: math.MaxUint32, Channels: channels(32)}
	for i := range 16 {
		c.Guests = append(c.Guests, alone(i, 16, 16, 64, 32))
	}
	return c
}

// normal is c with nil in the place of each empty list, in memory of its own.
func normal(c api.Config) api.Config {
	c.Guests = append([]api.Guest(nil), c.Guests...)
	c.Channels = append([]api.Channel(nil), c.Channels...)
	for i, g := range c.Guests {
		g.Windows = append([]api.Window(nil), g.Windows...)
		g.Devices = append([]api.Dev(nil), g.Devices...)
		g.Irqs = append([]api.Irq(nil), g.Irqs...)
		g.Streams = append([]uint32(nil), g.Streams...)
		c.Guests[i] = g
	}
	return c
}

// alike holds two configurations against each other apart from the program.
func alike(a, b api.Config) bool { return reflect.DeepEqual(normal(a), normal(b)) }

func checkPut(t *testing.T, what string, c api.Config, want []byte) {
	t.Helper()
	kept := normal(c)
	b, e := cfg.Put(c)
	if e != api.OK || !bytes.Equal(b, want) {
		t.Errorf("%s: Put is error %d,\n%x, want\n%x", what, e, b, want)
	}
	if !alike(c, kept) {
		t.Errorf("%s: Put changes what it is given", what)
	}
}

func checkRefused(t *testing.T, what string, c api.Config, want api.Errno) {
	t.Helper()
	if b, e := cfg.Put(c); e != want || len(b) != 0 {
		t.Errorf("%s: Put is error %d, %d bytes, want %d", what, e, len(b), want)
	}
}

func checkParse(t *testing.T, what string, b []byte, want api.Config, wantPlace int, wantErr api.Errno) {
	t.Helper()
	kept := slices.Clone(b)
	c, place, e := cfg.Parse(b)
	if place != wantPlace || e != wantErr || !alike(c, want) {
		t.Errorf("%s: Parse is place %d, error %d, want %d, %d,\n%+v, want\n%+v", what, place, e, wantPlace, wantErr, c, want)
	}
	if !bytes.Equal(b, kept) {
		t.Errorf("%s: Parse changes what it is given", what)
	}
}

// checkBoth asks that c and b are put and parsed into each other.
func checkBoth(t *testing.T, what string, c api.Config, b []byte) {
	t.Helper()
	checkPut(t, what, c, b)
	checkParse(t, what, b, c, 0, api.OK)
}

// modelPut is P14.1 of a configuration that may be.
func modelPut(c api.Config) []byte {
	be := binary.BigEndian
	truth := map[bool]uint32{true: 1}
	b := be.AppendUint32(nil, 0x42434647)
	for _, n := range []int{1, len(c.Guests), len(c.Channels), 0} {
		b = be.AppendUint16(b, uint16(n))
	}
	b = be.AppendUint32(b, c.Version)
	for _, g := range c.Guests {
		b = append(b, (g.Name + strings.Repeat("\x00", 16))[:16]...)
		for _, n := range []uint32{truth[g.Mandatory], g.Off, g.Len, g.Cpus} {
			b = be.AppendUint32(b, n)
		}
		b = be.AppendUint64(be.AppendUint64(b, g.Entry), g.Dtb)
		b = append(b, g.Key[:]...)
		for _, n := range []int{len(g.Windows), len(g.Devices), len(g.Irqs), len(g.Streams)} {
			b = be.AppendUint16(b, uint16(n))
		}
		for _, w := range g.Windows {
			b = be.AppendUint32(be.AppendUint64(be.AppendUint64(be.AppendUint64(b, w.IPA), w.PA), w.Size), uint32(w.Perm))
		}
		for _, d := range g.Devices {
			b = be.AppendUint64(be.AppendUint64(be.AppendUint64(b, d.IPA), d.PA), d.Size)
		}
		for _, i := range g.Irqs {
			b = be.AppendUint32(be.AppendUint16(be.AppendUint16(b, uint16(i.Number)), uint16(i.Cpu)), truth[i.Edge])
		}
		for _, s := range g.Streams {
			b = be.AppendUint32(b, s)
		}
	}
	for _, h := range c.Channels {
		b = be.AppendUint64(be.AppendUint64(b, h.PA), h.Size)
		for _, end := range h.Ends {
			b = be.AppendUint64(be.AppendUint16(be.AppendUint16(b, uint16(end.Guest)), uint16(end.Perm)), end.IPA)
		}
	}
	return b
}

// wrongNames are no names; where they have at most 16 bytes they are refused as bytes too.
func wrongNames() []string {
	l := []string{"", "a234567890123456-", "a2345678901234567", strings.Repeat("a", 32), strings.Repeat("b", 65536+4),
		"A", "Z", "_", " ", "\x00", "é", "aé", "éa", "éééééééé", "ééééééééa", "漢", "aB", "Ba", "a_b", "a b", "a\x00", "\x00a", "a\x00b", "a.", "a\n", "\xff", "a\x80",
		"abcdefghijklmnoP", "Abcdefghijklmnop", "abcdefg ijklmnop", "0123456789abcde\x00"}
	for i := range 256 {
		if !strings.ContainsRune("abcdefghijklmnopqrstuvwxyz0123456789-", rune(i)) {
			l = append(l, string([]byte{byte(i)}), string([]byte{'a', byte(i), 'b'}), string([]byte{'a', 'b', byte(i)}))
		}
	}
	return l
}

func names() []string {
	l := []string{"a", "z", "0", "9", "-", "--", "a-b", "-a", "a-", "linux", "m4n0", "0123456789abcdef", "ghijklmnopqrstuv", "wxyz-wxyz-wxyz-w", "----------------", "zzzzzzzzzzzzzzz"}
	for _, r := range "abcdefghijklmnopqrstuvwxyz0123456789-" {
		l = append(l, string(r), "x"+string(r)+"y", "xy"+string(r))
	}
	for n := range 16 {
		l = append(l, strings.Repeat("k", n+1))
	}
	return l
}

func TestName(t *testing.T) { // P14.2
	for _, s := range names() {
		if !cfg.Name(s) {
			t.Errorf("%q is no name", s)
		}
	}
	for _, s := range wrongNames() {
		if cfg.Name(s) {
			t.Errorf("%q is a name", s)
		}
	}
}

func TestNameAtEachPlace(t *testing.T) { // P14.2: each byte at each place of names of each length
	for n := 1; n <= 18; n++ {
		for at := range n {
			for i := range 256 {
				b := bytes.Repeat([]byte{'q'}, n)
				b[at] = byte(i)
				want := n <= 16 && (i >= 'a' && i <= 'z' || i >= '0' && i <= '9' || i == '-')
				if cfg.Name(string(b)) != want {
					t.Errorf("Name(%q) isn't %v", b, want)
				}
			}
		}
	}
}

func TestPutOfNames(t *testing.T) { // P14.1, P14.2, P14.3
	whole, places := fullBytes()
	for _, s := range names() {
		for i := range 2 {
			c := full()
			c.Guests[i].Name = s
			filled := append([]byte(s), make([]byte, 16-len(s))...)
			checkBoth(t, s, c, with(whole, places[fmt.Sprint(i, " name")], filled))
		}
	}
	for _, s := range wrongNames() {
		for i := range 2 {
			c := full()
			c.Guests[i].Name = s
			checkRefused(t, s, c, api.ErrText)
		}
	}
}

func TestPut(t *testing.T) { // P14.1
	whole, _ := fullBytes()
	checkBoth(t, "full", full(), whole)
	checkBoth(t, "little", little(), littleBytes())
	if len(littleBytes()) != 16+124+28 {
		t.Error("little:", len(littleBytes()))
	}
	checkBoth(t, "most", most(), modelPut(most()))
	// No configuration comes near 65,536 bytes, so that ErrLong is Parse's alone.
	if n := len(modelPut(most())); n != 16+16*(124+16*28+16*24+64*8+32*4)+32*40 {
		t.Error("most:", n)
	}
}

// number is a part that may be any number of so many bytes.
type number struct {
	name string
	size int
	set  func(c *api.Config, n uint64)
}

func numbers() []number {
	l := []number{{"version", 4, func(c *api.Config, n uint64) { c.Version = uint32(n) }}}
	for i := range 2 {
		guest := func(c *api.Config) *api.Guest { return &c.Guests[i] }
		channel := func(c *api.Config) *api.Channel { return &c.Channels[i] }
		window := func(c *api.Config) *api.Window { return &c.Guests[0].Windows[i] }
		device := func(c *api.Config) *api.Dev { return &c.Guests[0].Devices[i] }
		of, w, d, h := fmt.Sprint(i), fmt.Sprint("0 window ", i), fmt.Sprint("0 device ", i), fmt.Sprint("channel ", i)
		l = append(l,
			number{of + " off", 4, func(c *api.Config, n uint64) { guest(c).Off = uint32(n) }},
			number{of + " len", 4, func(c *api.Config, n uint64) { guest(c).Len = uint32(n) }},
			number{of + " cpus", 4, func(c *api.Config, n uint64) { guest(c).Cpus = uint32(n) }},
			number{of + " entry", 8, func(c *api.Config, n uint64) { guest(c).Entry = n }},
			number{of + " dtb", 8, func(c *api.Config, n uint64) { guest(c).Dtb = n }},
			number{w + " ipa", 8, func(c *api.Config, n uint64) { window(c).IPA = n }},
			number{w + " pa", 8, func(c *api.Config, n uint64) { window(c).PA = n }},
			number{w + " size", 8, func(c *api.Config, n uint64) { window(c).Size = n }},
			number{d + " ipa", 8, func(c *api.Config, n uint64) { device(c).IPA = n }},
			number{d + " pa", 8, func(c *api.Config, n uint64) { device(c).PA = n }},
			number{d + " size", 8, func(c *api.Config, n uint64) { device(c).Size = n }},
			number{h + " pa", 8, func(c *api.Config, n uint64) { channel(c).PA = n }},
			number{h + " size", 8, func(c *api.Config, n uint64) { channel(c).Size = n }},
			number{h + " end 0 ipa", 8, func(c *api.Config, n uint64) { channel(c).Ends[0].IPA = n }},
			number{h + " end 1 ipa", 8, func(c *api.Config, n uint64) { channel(c).Ends[1].IPA = n }},
		)
	}
	for i := range 3 {
		l = append(l, number{fmt.Sprint("0 stream ", i), 4, func(c *api.Config, n uint64) { c.Guests[0].Streams[i] = uint32(n) }})
	}
	return append(l,
		number{"1 window 0 ipa", 8, func(c *api.Config, n uint64) { c.Guests[1].Windows[0].IPA = n }},
		number{"1 window 0 pa", 8, func(c *api.Config, n uint64) { c.Guests[1].Windows[0].PA = n }},
		number{"1 window 0 size", 8, func(c *api.Config, n uint64) { c.Guests[1].Windows[0].Size = n }})
}

// sized are the lowest bytes of n.
func sized(n uint64, size int) []byte { return binary.BigEndian.AppendUint64(nil, n)[8-size:] }

func TestPutOfNumbers(t *testing.T) { // P14.1: each number at its place, from 0 up to the greatest
	whole, places := fullBytes()
	for _, part := range numbers() {
		bits := 8 * part.size
		for _, n := range []uint64{0, 1, 255, 256, 0x01020304, 1 << (bits - 1), 1<<(bits-1) - 1, math.MaxUint64>>(64-bits) - 1, math.MaxUint64 >> (64 - bits)} {
			c := full()
			part.set(&c, n)
			checkBoth(t, fmt.Sprintf("%s %#x", part.name, n), c, with(whole, places[part.name], sized(n, part.size)))
		}
	}
}

// bounded is a part that may be from 0 up to some number.
type bounded struct {
	name       string
	size, most int
	set        func(c *api.Config, n int)
}

func boundedParts() []bounded {
	l := []bounded{{"1 window 0 perm", 4, 7, func(c *api.Config, n int) { c.Guests[1].Windows[0].Perm = n }}}
	for i := range 2 {
		w, q, h := fmt.Sprint("0 window ", i), fmt.Sprint("0 irq ", i), fmt.Sprint("channel ", i)
		l = append(l,
			bounded{w + " perm", 4, 7, func(c *api.Config, n int) { c.Guests[0].Windows[i].Perm = n }},
			bounded{q + " number", 2, 65535, func(c *api.Config, n int) { c.Guests[0].Irqs[i].Number = n }},
			bounded{q + " cpu", 2, 65535, func(c *api.Config, n int) { c.Guests[0].Irqs[i].Cpu = n }},
		)
		for j := range 2 {
			end := fmt.Sprint(h, " end ", j)
			l = append(l,
				bounded{end + " guest", 2, 65535, func(c *api.Config, n int) { c.Channels[i].Ends[j].Guest = n }},
				bounded{end + " perm", 2, 7, func(c *api.Config, n int) { c.Channels[i].Ends[j].Perm = n }},
			)
		}
	}
	return l
}

func TestPutOfBounds(t *testing.T) { // P14.2, P14.3: Perm, Number, Cpu, Guest
	whole, places := fullBytes()
	for _, part := range boundedParts() {
		for _, n := range []int{0, 1, 2, 3, 4, 5, 6, 7, 8, 9, 15, 16, 255, 256, 257, 263, 32767, 32768, 65534, 65535, 65536, 65537, 65543, 1 << 24, 1<<31 - 1, 1 << 31,
			1<<32 - 1, 1 << 32, 1<<32 + 1, 1<<32 + 7, math.MaxInt, -1, -2, -7, -8, -9, -65535, -65536, -65529, -1 << 31, -1 << 32, 7 - 1<<32, math.MinInt, math.MinInt + 7} {
			c := full()
			part.set(&c, n)
			what := fmt.Sprintf("%s %d", part.name, n)
			if n < 0 || n > part.most {
				checkRefused(t, what, c, api.ErrField)
			} else {
				checkBoth(t, what, c, with(whole, places[part.name], sized(uint64(n), part.size)))
			}
		}
	}
}

// oids has those that are some key's, and others.
func oids() (good, wrong []uint32) {
	return []uint32{1, 2, 3}, []uint32{0, 4, 5, 255, 256, 257, 258, 1<<16 + 1, 1 << 24, 2 << 24, 3 << 24, 1<<24 + 1, 1 << 31, 1<<31 + 1, 1<<31 + 3, math.MaxUint32 - 1, math.MaxUint32}
}

func TestPutOfKeys(t *testing.T) { // P14.2: the Oid has a height; of the other bytes nothing is asked
	whole, places := fullBytes()
	good, wrong := oids()
	for i := range 2 {
		for _, oid := range good {
			for _, rest := range []byte{0, 1, 0x80, 0xff} {
				c := full()
				c.Guests[i].Key = key(oid, rest)
				checkBoth(t, fmt.Sprint("oid ", oid), c, with(whole, places[fmt.Sprint(i, " key")], bytesOf(fmt.Sprintf("%08x", oid)+counting(rest, 64))))
			}
		}
		for _, oid := range wrong {
			c := full()
			c.Guests[i].Key = key(oid, 0)
			checkRefused(t, fmt.Sprint("oid ", oid), c, api.ErrField)
		}
		for _, is := range []bool{false, true} {
			c := full()
			c.Guests[i].Mandatory, c.Guests[0].Irqs[i].Edge = is, !is
			b := with(whole, places[fmt.Sprint(i, " flags")]+3, []byte{map[bool]byte{true: 1}[is]})
			checkBoth(t, "flags", c, with(b, places[fmt.Sprint("0 irq ", i, " edge")]+3, []byte{map[bool]byte{false: 1}[is]}))
		}
	}
}

// count is a list that has a bound.
type count struct {
	name        string
	least, most int
	set         func(c *api.Config, n int)
}

func counts() []count {
	l := []count{
		{"guests", 1, 16, func(c *api.Config, n int) {
			c.Guests = nil
			for i := range n {
				c.Guests = append(c.Guests, alone(i, 1, 0, i%3, 1))
			}
		}},
		{"channels", 0, 32, func(c *api.Config, n int) { c.Channels = channels(n) }},
	}
	for i := range 2 {
		l = append(l,
			count{fmt.Sprint(i, " windows"), 1, 16, func(c *api.Config, n int) { c.Guests[i].Windows = alone(7, n, 0, 0, 0).Windows }},
			count{fmt.Sprint(i, " devices"), 0, 16, func(c *api.Config, n int) { c.Guests[i].Devices = alone(7, 0, n, 0, 0).Devices }},
			count{fmt.Sprint(i, " irqs"), 0, 64, func(c *api.Config, n int) { c.Guests[i].Irqs = alone(7, 0, 0, n, 0).Irqs }},
			count{fmt.Sprint(i, " streams"), 0, 32, func(c *api.Config, n int) { c.Guests[i].Streams = alone(7, 0, 0, 0, n).Streams }},
		)
	}
	return l
}

func TestPutOfCounts(t *testing.T) { // P14.2, P14.3
	for _, l := range counts() {
		for _, n := range []int{0, 1, 2, 15, 16, 17, 18, 31, 32, 33, 34, 63, 64, 65, 66, 128, 255, 256, 257, 288, 65535, 65536, 65537} {
			c := full()
			l.set(&c, n)
			what := fmt.Sprint(n, " of ", l.name)
			if n < l.least || n > l.most {
				checkRefused(t, what, c, api.ErrCount)
			} else {
				checkBoth(t, what, c, modelPut(c))
			}
		}
	}
	checkRefused(t, "nothing", api.Config{}, api.ErrCount)
	checkRefused(t, "empty lists", api.Config{Guests: []api.Guest{}, Channels: []api.Channel{}}, api.ErrCount)
}

// breakage makes a configuration one that may not be.
type breakage struct {
	name  string
	e     api.Errno
	spoil func(c *api.Config)
}

// breakages are of full, in the order in which Put asks them; none undoes another one.
func breakages() []breakage {
	l := []breakage{
		{"17 guests", api.ErrCount, func(c *api.Config) { c.Guests = append(c.Guests, make([]api.Guest, 15)...) }},
		{"33 channels", api.ErrCount, func(c *api.Config) { c.Channels = append(c.Channels, make([]api.Channel, 31)...) }},
	}
	for i := range 2 {
		g := func(c *api.Config) *api.Guest { return &c.Guests[i] }
		l = append(l,
			breakage{fmt.Sprint(i, " name"), api.ErrText, func(c *api.Config) { g(c).Name = "No" }},
			breakage{fmt.Sprint(i, " key"), api.ErrField, func(c *api.Config) { g(c).Key[3] = 9 }},
			breakage{fmt.Sprint(i, " windows"), api.ErrCount, func(c *api.Config) { g(c).Windows = append(g(c).Windows, make([]api.Window, 16)...) }},
			breakage{fmt.Sprint(i, " devices"), api.ErrCount, func(c *api.Config) { g(c).Devices = make([]api.Dev, 17) }},
			breakage{fmt.Sprint(i, " irqs"), api.ErrCount, func(c *api.Config) { g(c).Irqs = append(g(c).Irqs, make([]api.Irq, 65)...) }},
			breakage{fmt.Sprint(i, " streams"), api.ErrCount, func(c *api.Config) { g(c).Streams = make([]uint32, 33) }},
			breakage{fmt.Sprint(i, " perm"), api.ErrField, func(c *api.Config) { g(c).Windows[0].Perm = 8 }},
		)
		if i == 0 {
			l = append(l, breakage{"0 number", api.ErrField, func(c *api.Config) { g(c).Irqs[1].Number = -1 }})
		}
	}
	return append(l,
		breakage{"an end's guest", api.ErrField, func(c *api.Config) { c.Channels[0].Ends[1].Guest = 65536 }},
		breakage{"an end's perm", api.ErrField, func(c *api.Config) { c.Channels[1].Ends[0].Perm = -1 }})
}

func TestPutOfTwoErrors(t *testing.T) { // P14.3: whichever was made first, the one that stands ahead is told
	l := breakages()
	for i, first := range l {
		for _, second := range l[i:] {
			c, d := full(), full()
			first.spoil(&c)
			second.spoil(&c)
			second.spoil(&d)
			first.spoil(&d)
			checkRefused(t, first.name+" and "+second.name, c, first.e)
			checkRefused(t, second.name+" and "+first.name, d, first.e)
		}
	}
}

func TestPutOfTooFew(t *testing.T) { // P14.3: no windows, ahead of an interrupt, behind a key, behind a name
	for _, c := range []struct {
		g    api.Guest
		want api.Errno
	}{
		{api.Guest{}, api.ErrText},
		{api.Guest{Name: "a"}, api.ErrField},
		{api.Guest{Name: "a", Key: key(1, 0)}, api.ErrCount},
		{api.Guest{Name: "a", Key: key(1, 0), Irqs: []api.Irq{{Number: -1}}}, api.ErrCount},
		{api.Guest{Name: "a", Key: key(1, 0), Windows: []api.Window{{}}, Irqs: []api.Irq{{Number: -1}}}, api.ErrField},
		{api.Guest{Name: "a", Key: key(1, 0), Windows: []api.Window{{}}}, api.OK},
	} {
		if _, e := cfg.Put(api.Config{Guests: []api.Guest{c.g}}); e != c.want {
			t.Errorf("%+v: error %d, want %d", c.g, e, c.want)
		}
		if _, e := cfg.Put(api.Config{Guests: []api.Guest{alone(0, 1, 1, 1, 1), c.g}}); e != c.want {
			t.Errorf("%+v behind another one: error %d, want %d", c.g, e, c.want)
		}
	}
}

func TestPutSharesNothing(t *testing.T) { // P2
	want := modelPut(most())
	c := most()
	kept := normal(c)
	b, _ := cfg.Put(c)
	other, _ := cfg.Put(c)
	clear(b[:cap(b)])
	if !alike(c, kept) || !bytes.Equal(other, want) {
		t.Error("what was given, or another answer, changes with the first one")
	}
	for i := range c.Guests {
		clear(c.Guests[i].Streams)
		clear(c.Guests[i].Windows)
	}
	clear(c.Guests)
	if !bytes.Equal(other, want) {
		t.Error("the answer changes with what was given")
	}
}

func TestPutStaysWithinLengths(t *testing.T) { // P2: what lies behind a list's length isn't looked at
	wrong := api.Guest{Name: "No"}
	c := full()
	want := modelPut(c)
	c.Guests = append(c.Guests, wrong)[:2]
	c.Channels = append(c.Channels, api.Channel{Ends: [2]api.End{{Perm: 9}}})[:2]
	g := &c.Guests[0]
	g.Windows = append(g.Windows, api.Window{Perm: 9})[:2]
	g.Devices = append(g.Devices, api.Dev{IPA: 9})[:2]
	g.Irqs = append(g.Irqs, api.Irq{Number: -9})[:2]
	g.Streams = append(g.Streams, 9)[:3]
	checkPut(t, "with more behind", c, want)
	if c.Guests[:3][2].Name != "No" || g.Windows[:3][2].Perm != 9 || g.Devices[:3][2].IPA != 9 || g.Irqs[:3][2].Number != -9 || g.Streams[:4][3] != 9 || c.Channels[:3][2].Ends[0].Perm != 9 {
		t.Error("what lies behind is changed")
	}
}

// anyOf tells a number of so many bits, at an edge or anywhere.
func anyOf(r *rand.Rand, bits int) uint64 {
	n := r.Uint64()
	switch r.Intn(4) {
	case 0:
		n = 0
	case 1:
		n = math.MaxUint64
	}
	return n >> (64 - bits)
}

// length tells how long a list is, mostly short, or as long as may be.
func length(r *rand.Rand, least, most int) int {
	if r.Intn(8) == 0 {
		return most
	}
	return least + r.Intn(3)
}

// anyGuest and anyConfig may be.
func anyGuest(r *rand.Rand) api.Guest {
	g := api.Guest{Mandatory: r.Intn(2) == 1, Off: uint32(anyOf(r, 32)), Len: uint32(anyOf(r, 32)), Cpus: uint32(anyOf(r, 32)), Entry: anyOf(r, 64), Dtb: anyOf(r, 64)}
	for range 1 + r.Intn(16) {
		g.Name += string("abcdefghijklmnopqrstuvwxyz0123456789-"[r.Intn(37)])
	}
	r.Read(g.Key[:])
	copy(g.Key[:], []byte{0, 0, 0, byte(1 + r.Intn(3))})
	for range length(r, 1, 16) {
		g.Windows = append(g.Windows, api.Window{IPA: anyOf(r, 64), PA: anyOf(r, 64), Size: anyOf(r, 64), Perm: r.Intn(8)})
	}
	for range length(r, 0, 16) {
		g.Devices = append(g.Devices, api.Dev{IPA: anyOf(r, 64), PA: anyOf(r, 64), Size: anyOf(r, 64)})
	}
	for range length(r, 0, 64) {
		g.Irqs = append(g.Irqs, api.Irq{Number: int(anyOf(r, 16)), Cpu: int(anyOf(r, 16)), Edge: r.Intn(2) == 1})
	}
	for range length(r, 0, 32) {
		g.Streams = append(g.Streams, uint32(anyOf(r, 32)))
	}
	return g
}

func anyConfig(r *rand.Rand) api.Config {
	c := api.Config{Version: uint32(anyOf(r, 32))}
	for range length(r, 1, 16) {
		c.Guests = append(c.Guests, anyGuest(r))
	}
	for range length(r, 0, 32) {
		c.Channels = append(c.Channels, api.Channel{PA: anyOf(r, 64), Size: anyOf(r, 64), Ends: [2]api.End{
			{Guest: int(anyOf(r, 16)), Perm: r.Intn(8), IPA: anyOf(r, 64)}, {Guest: int(anyOf(r, 16)), Perm: r.Intn(8), IPA: anyOf(r, 64)}}})
	}
	return c
}

func TestThereAndBack(t *testing.T) { // P14.6, P14.1: whatever may be
	r := rand.New(rand.NewSource(14))
	for i := range 2000 {
		c := anyConfig(r)
		b, e := cfg.Put(c)
		back, place, f := cfg.Parse(b)
		if e != api.OK || f != api.OK || place != 0 || !bytes.Equal(b, modelPut(c)) || !alike(back, c) || !cfg.Same(back, c) || !cfg.Same(c, back) {
			t.Fatalf("configuration %d: Put %d, Parse %d, %d,\n%+v", i, e, place, f, c)
		}
	}
}
