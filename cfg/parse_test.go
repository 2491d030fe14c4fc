package cfg_test

import (
	"bytes"
	"fmt"
	"math"
	"math/rand"
	"slices"
	"strings"
	"testing"

	"portreeve/api"
	"portreeve/cfg"
)

// model reads bytes as P14.4 tells; with the first error it stays where it is, and reads noughts.
type model struct {
	b         []byte
	at, place int
	e         api.Errno
}

func (m *model) stop(place int, e api.Errno) {
	if m.e == api.OK {
		m.place, m.e = place, e
	}
}

func (m *model) take(size int) []byte {
	if m.e == api.OK && m.at+size <= len(m.b) {
		m.at += size
		return m.b[m.at-size : m.at]
	}
	m.stop(m.at, api.ErrShort)
	return make([]byte, size)
}

// number is one from least to most, or else there is the error e.
func (m *model) number(size int, least, most uint64, e api.Errno) uint64 {
	place, n := m.at, uint64(0)
	for _, x := range m.take(size) {
		n = n*256 + uint64(x)
	}
	if m.e == api.OK && (n < least || n > most) {
		m.stop(place, e)
	}
	if m.e != api.OK {
		return 0
	}
	return n
}

func (m *model) any(size int) uint64 { return m.number(size, 0, math.MaxUint64, api.OK) }

func (m *model) name() string {
	place := m.at
	s := string(m.take(16))
	name, rest, _ := strings.Cut(s, "\x00")
	if len(name) == 0 || strings.Trim(name, "abcdefghijklmnopqrstuvwxyz0123456789-") != "" || strings.Trim(rest, "\x00") != "" {
		m.stop(place, api.ErrText)
	}
	for _, r := range name {
		if !strings.ContainsRune("abcdefghijklmnopqrstuvwxyz0123456789-", r) {
			m.stop(place, api.ErrText)
		}
	}
	return name
}

func (m *model) key() [68]byte {
	place := m.at
	k := [68]byte(m.take(68))
	if !bytes.Equal(k[:3], []byte{0, 0, 0}) || k[3] < 1 || k[3] > 3 {
		m.stop(place, api.ErrField)
	}
	return k
}

func (m *model) guest() api.Guest {
	g := api.Guest{}
	g.Name = m.name()
	g.Mandatory = m.number(4, 0, 1, api.ErrField) == 1
	g.Off, g.Len, g.Cpus = uint32(m.any(4)), uint32(m.any(4)), uint32(m.any(4))
	g.Entry, g.Dtb = m.any(8), m.any(8)
	g.Key = m.key()
	windows := m.number(2, 1, 16, api.ErrCount)
	devices := m.number(2, 0, 16, api.ErrCount)
	irqs := m.number(2, 0, 64, api.ErrCount)
	streams := m.number(2, 0, 32, api.ErrCount)
	for range windows {
		g.Windows = append(g.Windows, api.Window{IPA: m.any(8), PA: m.any(8), Size: m.any(8), Perm: int(m.number(4, 0, 7, api.ErrField))})
	}
	for range devices {
		g.Devices = append(g.Devices, api.Dev{IPA: m.any(8), PA: m.any(8), Size: m.any(8)})
	}
	for range irqs {
		g.Irqs = append(g.Irqs, api.Irq{Number: int(m.any(2)), Cpu: int(m.any(2)), Edge: m.number(4, 0, 1, api.ErrField) == 1})
	}
	for range streams {
		g.Streams = append(g.Streams, uint32(m.any(4)))
	}
	return g
}

func modelParse(b []byte) (api.Config, int, api.Errno) {
	if len(b) > 65536 {
		return api.Config{}, 0, api.ErrLong
	}
	m := &model{b: b}
	m.number(4, 0x42434647, 0x42434647, api.ErrMagic)
	m.number(2, 1, 1, api.ErrField)
	guests := m.number(2, 1, 16, api.ErrCount)
	channels := m.number(2, 0, 32, api.ErrCount)
	m.number(2, 0, 0, api.ErrField)
	c := api.Config{Version: uint32(m.any(4))}
	for range guests {
		c.Guests = append(c.Guests, m.guest())
	}
	for range channels {
		h := api.Channel{PA: m.any(8), Size: m.any(8)}
		for i := range h.Ends {
			h.Ends[i] = api.End{Guest: int(m.any(2)), Perm: int(m.number(2, 0, 7, api.ErrField)), IPA: m.any(8)}
		}
		c.Channels = append(c.Channels, h)
	}
	if m.at < len(b) {
		m.stop(m.at, api.ErrTrail)
	}
	if m.e != api.OK {
		return api.Config{}, m.place, m.e
	}
	return c, 0, api.OK
}

// checkModel holds Parse against the model, and what is taken against what Put writes of it (P14.6).
func checkModel(t *testing.T, what string, b []byte) {
	t.Helper()
	want, place, e := modelParse(b)
	checkParse(t, what, b, want, place, e)
	if t.Failed() { // it is asked so often that all it tells would be too much
		t.FailNow()
	}
	if e != api.OK {
		return
	}
	c, _, _ := cfg.Parse(b)
	if again, f := cfg.Put(c); f != api.OK || !bytes.Equal(again, b) {
		t.Errorf("%s: what Parse takes Put writes as error %d,\n%x, want\n%x", what, f, again, b)
	}
}

func checkError(t *testing.T, what string, b []byte, place int, e api.Errno) {
	t.Helper()
	checkParse(t, what, b, api.Config{}, place, e)
}

func TestParseExamples(t *testing.T) { // the chapter's
	checkError(t, "no bytes", nil, 0, api.ErrShort)
	checkError(t, "no bytes", []byte{}, 0, api.ErrShort)
	checkError(t, "4 bytes 0", make([]byte, 4), 0, api.ErrMagic)
}

func TestParseCutOff(t *testing.T) { // P14.4: at every byte, with the place of the field that isn't whole
	whole, _ := fullBytes()
	at := 0
	for _, f := range fields() {
		next := at + len(f.hex)/2
		for n := at; n < next; n++ {
			checkError(t, fmt.Sprint(n, " bytes, in ", f.name), slices.Clone(whole[:n]), at, api.ErrShort)
			checkError(t, fmt.Sprint(n, " bytes, with more behind their length, in ", f.name), whole[:n], at, api.ErrShort)
		}
		at = next
	}
	for n := range littleBytes() {
		checkModel(t, fmt.Sprint(n, " bytes of little"), littleBytes()[:n])
	}
}

func TestParseCutOffOfMost(t *testing.T) { // P14.4
	b := modelPut(most())
	for n := 0; n < len(b); n += 3 {
		_, place, e := modelParse(b[:n])
		if c, at, f := cfg.Parse(b[:n]); e != api.ErrShort || f != e || at != place || !alike(c, api.Config{}) {
			t.Errorf("%d bytes: place %d, error %d, want %d, %d", n, at, f, place, e)
		}
	}
}

func TestParseTrail(t *testing.T) { // P14.4: one byte behind, many, as many as may be
	whole, _ := fullBytes()
	for _, b := range [][]byte{whole, littleBytes(), modelPut(most())} {
		for _, x := range []byte{0, 1, 0x42, 0xff} {
			for _, n := range []int{1, 2, 3, 4, 8, 40, 124, 1000, 65536 - len(b)} {
				checkError(t, fmt.Sprint(n, " bytes ", x, " behind ", len(b)), append(slices.Clone(b), bytes.Repeat([]byte{x}, n)...), len(b), api.ErrTrail)
			}
		}
		checkError(t, "twice", append(slices.Clone(b), b...), len(b), api.ErrTrail)
	}
}

func TestParseOfTooMany(t *testing.T) { // P14.4: ErrLong ahead of whatever else there is
	whole, _ := fullBytes()
	for _, b := range [][]byte{nil, {0}, whole[:1], whole[:100], whole, littleBytes(), modelPut(most()), with(whole, 0, []byte{0}), with(whole, 4, []byte{9})} {
		_, place, e := modelParse(append(slices.Clone(b), make([]byte, 65536-len(b))...))
		for _, n := range []int{65534, 65535, 65536} {
			checkError(t, fmt.Sprint(n, " bytes"), append(slices.Clone(b), make([]byte, n-len(b))...), place, e)
		}
		for _, n := range []int{65537, 65538, 65540, 131072, 1 << 20} {
			checkError(t, fmt.Sprint(n, " bytes"), append(slices.Clone(b), make([]byte, n-len(b))...), 0, api.ErrLong)
		}
	}
}

// wrong are first bytes of a field that it may not have, and what they come to.
func wrong(f field) ([]string, api.Errno) {
	switch f.kind {
	case "magic":
		return []string{"00000000", "42434646", "42434648", "42434347", "42424647", "41434647", "47464342", "c2434647", "43424746", "ffffffff"}, api.ErrMagic
	case "format":
		return []string{"0000", "0002", "0003", "0100", "0101", "8001", "ffff"}, api.ErrField
	case "nought":
		return []string{"0001", "0002", "0100", "8000", "ffff"}, api.ErrField
	case "guests", "windows":
		return []string{"0000", "0011", "0012", "0020", "0100", "0101", "0110", "8001", "ffff"}, api.ErrCount
	case "devices":
		return []string{"0011", "0012", "0020", "0100", "0110", "8000", "ffff"}, api.ErrCount
	case "channels", "streams":
		return []string{"0021", "0022", "0040", "0100", "0120", "8000", "ffff"}, api.ErrCount
	case "irqs":
		return []string{"0041", "0042", "0080", "0100", "0140", "8000", "ffff"}, api.ErrCount
	case "flag":
		return []string{"00000002", "00000003", "000000ff", "00000100", "00000101", "00010000", "01000000", "80000000", "80000001", "ffffffff"}, api.ErrField
	case "perm4":
		return []string{"00000008", "00000009", "0000000f", "000000ff", "00000100", "00000107", "00010000", "00010001", "07000000", "7fffffff", "80000000", "80000007", "fffffffe", "ffffffff"}, api.ErrField
	case "perm2":
		return []string{"0008", "0009", "000f", "00ff", "0100", "0107", "0700", "7fff", "8000", "8007", "ffff"}, api.ErrField
	case "key":
		var l []string
		_, oids := oids()
		for _, oid := range oids {
			l = append(l, fmt.Sprintf("%08x", oid))
		}
		return l, api.ErrField
	case "name":
		return wrongNameFields(), api.ErrText
	}
	return nil, api.OK
}

// wrongNameFields are 16 bytes that hold no name: with a sign that may not be, with a 0 ahead, with something behind a 0.
func wrongNameFields() []string {
	l := []string{
		"00000000000000000000000000000000", "00610000000000000000000000000000", "00000000000000000000000000000061", "00616263646566676869303132333435",
		"61006200000000000000000000000000", "61000000000000000000000000000001", "61000000000000000000000000000062", "61620000000000000100000000000000", "616263646566676869303132333400ff", "61000100000000000000000000000000",
		"41424344454647484950515253545556", "616263646566676869303132333435ff",
	}
	for _, s := range wrongNames() {
		if len(s) <= 16 && strings.Trim(s, "\x00") == s && s != "" {
			l = append(l, fmt.Sprintf("%x", s+strings.Repeat("\x00", 16-len(s))))
		}
	}
	return l
}

func TestParseOfWrongFields(t *testing.T) { // P14.4: one by one, the error and the place
	whole, places := fullBytes()
	asked := 0
	for _, f := range fields() {
		l, e := wrong(f)
		for _, x := range l {
			asked++
			b := with(whole, places[f.name], bytesOf(x))
			checkError(t, f.name+" "+x, b, places[f.name], e)
			checkError(t, f.name+" "+x+", with nothing behind it", b[:places[f.name]+len(f.hex)/2], places[f.name], e)
			checkError(t, f.name+" "+x+", with more behind it", append(b, 1), places[f.name], e)
		}
	}
	if asked < 300 {
		t.Error(asked)
	}
}

func TestParseOfTwoErrors(t *testing.T) { // P14.4: the one that stands ahead is told
	whole, places := fullBytes()
	var l []field
	for _, f := range fields() {
		if x, _ := wrong(f); len(x) > 0 {
			l = append(l, f)
		}
	}
	for i, first := range l {
		x, e := wrong(first)
		b := with(whole, places[first.name], bytesOf(x[0]))
		for _, second := range l[i+1:] {
			y, _ := wrong(second)
			both := with(b, places[second.name], bytesOf(y[len(y)-1]))
			checkError(t, first.name+" and "+second.name, both, places[first.name], e)
		}
		// An end that comes within the field itself, or ahead of it, is what is told.
		for n := places[first.name]; n < places[first.name]+len(first.hex)/2; n++ {
			checkError(t, first.name+" cut off", b[:n], places[first.name], api.ErrShort)
		}
		if i > 0 {
			checkError(t, first.name+" behind the end", b[:places[l[i-1].name]], places[l[i-1].name], api.ErrShort)
		}
	}
}

func TestParseOfGoodFields(t *testing.T) { // P14.4: of all bits, and of the least and the greatest numbers
	whole, places := fullBytes()
	for _, f := range fields() {
		at, size := places[f.name], len(f.hex)/2
		l := [][]byte{make([]byte, size), bytes.Repeat([]byte{0xff}, size), bytes.Repeat([]byte{0x80}, size), bytes.Repeat([]byte{0x01}, size)}
		for bit := range 8 * size {
			x := bytesOf(f.hex)
			x[bit/8] ^= 0x80 >> (bit % 8)
			l = append(l, x)
		}
		for _, x := range l {
			b := with(whole, at, x)
			if _, _, e := modelParse(b); f.kind == "" && e != api.OK {
				t.Errorf("%s %x: the model's error %d", f.name, x, e)
			}
			checkModel(t, fmt.Sprintf("%s %x", f.name, x), b)
		}
	}
}

func TestParseOfEachByte(t *testing.T) { // P14.4, P14.6: with every other value
	whole, _ := fullBytes()
	for at := range whole {
		for x := range 256 {
			checkModel(t, fmt.Sprintf("byte %d: %#x", at, x), with(whole, at, []byte{byte(x)}))
		}
	}
}

func TestParseOfAnyCounts(t *testing.T) { // P14.4: each count from 0 to beyond its bound, with bytes enough behind it, and with too few
	whole, places := fullBytes()
	behind := append(slices.Clone(whole), make([]byte, 40000)...)
	for _, f := range fields() {
		if !slices.Contains([]string{"guests", "channels", "windows", "devices", "irqs", "streams"}, f.kind) {
			continue
		}
		for n := range 70 {
			x := []byte{0, byte(n)}
			checkModel(t, fmt.Sprint(f.name, " ", n), with(whole, places[f.name], x))
			checkModel(t, fmt.Sprint(f.name, " ", n, " and more"), with(behind, places[f.name], x))
		}
	}
}

// TestParseOfAnything spoils bytes here and there, takes some away, and puts some in (P14.4, P14.6).
func TestParseOfAnything(t *testing.T) {
	r := rand.New(rand.NewSource(41))
	for i := range 20000 {
		b := modelPut(anyConfig(r))
		for range r.Intn(4) {
			b[r.Intn(len(b))] = byte(anyOf(r, 8))
		}
		at := r.Intn(len(b) + 1)
		switch r.Intn(8) {
		case 0:
			b = b[:at]
		case 1:
			b = slices.Insert(b, at, byte(anyOf(r, 8)))
		case 2:
			b = append(b[:at], b[min(len(b), at+1+r.Intn(8)):]...)
		case 3:
			b = b[at:]
		}
		checkModel(t, fmt.Sprint("bytes ", i), b)
	}
}

func TestParseSharesNothing(t *testing.T) { // P2: with the bytes, with another answer, one list with another
	b := modelPut(most())
	c, _, _ := cfg.Parse(b)
	other, _, _ := cfg.Parse(b)
	clear(b)
	if !alike(c, most()) {
		t.Error("the answer changes with the bytes")
	}
	for i := range c.Guests {
		g := &c.Guests[i]
		clear(g.Windows[:cap(g.Windows)])
		clear(g.Devices[:cap(g.Devices)])
		if i > 0 && !alike(api.Config{Guests: []api.Guest{{Irqs: g.Irqs, Streams: g.Streams}}}, api.Config{Guests: []api.Guest{{Irqs: alone(i, 0, 0, 64, 0).Irqs, Streams: alone(i, 0, 0, 0, 32).Streams}}}) {
			t.Error("a guest's lists change with others of guest", i)
		}
		clear(g.Irqs[:cap(g.Irqs)])
		clear(g.Streams[:cap(g.Streams)])
	}
	clear(c.Guests[:cap(c.Guests)])
	if !alike(api.Config{Channels: c.Channels}, api.Config{Channels: channels(32)}) {
		t.Error("channels change with guests")
	}
	clear(c.Channels[:cap(c.Channels)])
	if !alike(other, most()) {
		t.Error("another answer changes with the first one")
	}
}
