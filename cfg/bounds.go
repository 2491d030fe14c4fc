package cfg

import (
	"math"
	"slices"

	"portreeve/api"
	"portreeve/word"
	"portreeve/xmss"
)

// How many bytes a name and a key have.
const (
	nameSize = 16
	keySize  = len(api.Guest{}.Key)
)

// Put and Parse ask the same bounds, so that neither takes what the other refuses (P14.6).

func among(n, least, most int) bool { return least <= n && n <= most }

func guestsFit(n int) bool { return among(n, 1, api.MaxGuests) }

func channelsFit(n int) bool { return among(n, 0, api.MaxChannels) }

func windowsFit(n int) bool { return among(n, 1, api.MaxWindows) }

func devicesFit(n int) bool { return among(n, 0, api.MaxDevices) }

func irqsFit(n int) bool { return among(n, 0, api.MaxIrqs) }

func streamsFit(n int) bool { return among(n, 0, api.MaxStreams) }

func permFits(n int) bool { return among(n, 0, api.Read|api.Write|api.Exec) }

// shortFits tells whether two bytes hold n.
func shortFits(n int) bool { return among(n, 0, math.MaxUint16) }

// sign tells of one byte: those of a longer sign are none.
func sign(b byte) bool { return 'a' <= b && b <= 'z' || '0' <= b && b <= '9' || b == '-' }

func keyed(key [keySize]byte) bool {
	oid, _ := word.Be32(key[:], 0)
	_, is := xmss.Height(oid)
	return is
}

func tooLong(b []byte) bool { return len(b) > api.MaxConfig }

// refused tells the first error in the order in which the bytes would stand.
func refused(c api.Config) api.Errno {
	if !guestsFit(len(c.Guests)) || !channelsFit(len(c.Channels)) {
		return api.ErrCount
	}
	for _, g := range c.Guests {
		if e := refusedGuest(g); e != api.OK {
			return e
		}
	}
	if slices.ContainsFunc(c.Channels, wrongChannel) {
		return api.ErrField
	}
	return api.OK
}

func refusedGuest(g api.Guest) api.Errno {
	switch {
	case !Name(g.Name):
		return api.ErrText
	case !keyed(g.Key):
		return api.ErrField
	case !counted(g):
		return api.ErrCount
	case slices.ContainsFunc(g.Windows, wrongWindow) || slices.ContainsFunc(g.Irqs, wrongIrq):
		return api.ErrField
	}
	return api.OK
}

func counted(g api.Guest) bool {
	return windowsFit(len(g.Windows)) && devicesFit(len(g.Devices)) && irqsFit(len(g.Irqs)) && streamsFit(len(g.Streams))
}

func wrongWindow(w api.Window) bool { return !permFits(w.Perm) }

func wrongIrq(i api.Irq) bool { return !shortFits(i.Number) || !shortFits(i.Cpu) }

func wrongChannel(c api.Channel) bool { return slices.ContainsFunc(c.Ends[:], wrongEnd) }

func wrongEnd(end api.End) bool { return !shortFits(end.Guest) || !permFits(end.Perm) }
