package cfg

import (
	"bytes"

	"portreeve/api"
)

// parser reads what a configuration is made of. Its fields stand in its literals in the order of their bytes, since calls are made in the order in which they are written.
type parser struct{ cursor }

// list reads n of any kind, each list into memory of its own.
func list[T any](n int, read func() T) []T {
	var l []T
	for range n {
		l = append(l, read())
	}
	return l
}

func (p *parser) config() api.Config {
	p.must(p.long() == magic, api.ErrMagic)
	p.must(p.short() == format, api.ErrField)
	guests, channels := p.count(guestsFit), p.count(channelsFit)
	p.must(p.short() == 0, api.ErrField)
	return api.Config{
		Version:  p.long(),
		Guests:   list(guests, p.guest),
		Channels: list(channels, p.channel),
	}
}

func (p *parser) guest() api.Guest {
	g := api.Guest{
		Name:      p.name(),
		Mandatory: p.flag(),
		Off:       p.long(),
		Len:       p.long(),
		Cpus:      p.long(),
		Entry:     p.wide(),
		Dtb:       p.wide(),
		Key:       p.key(),
	}
	windows, devices := p.count(windowsFit), p.count(devicesFit)
	irqs, streams := p.count(irqsFit), p.count(streamsFit)
	g.Windows = list(windows, p.window)
	g.Devices = list(devices, p.device)
	g.Irqs = list(irqs, p.irq)
	g.Streams = list(streams, p.long)
	return g
}

func (p *parser) window() api.Window {
	return api.Window{IPA: p.wide(), PA: p.wide(), Size: p.wide(), Perm: p.perm(p.long())}
}

func (p *parser) device() api.Dev { return api.Dev{IPA: p.wide(), PA: p.wide(), Size: p.wide()} }

func (p *parser) irq() api.Irq {
	return api.Irq{Number: p.short(), Cpu: p.short(), Edge: p.flag()}
}

func (p *parser) channel() api.Channel {
	return api.Channel{PA: p.wide(), Size: p.wide(), Ends: [2]api.End{p.end(), p.end()}}
}

func (p *parser) end() api.End {
	return api.End{Guest: p.short(), Perm: p.perm(uint32(p.short())), IPA: p.wide()}
}

func (p *parser) count(fits func(n int) bool) int {
	n := p.short()
	p.must(fits(n), api.ErrCount)
	return n
}

// name cuts off the bytes 0 at the end alone: one that stands further ahead is no sign of a name.
func (p *parser) name() string {
	name := string(bytes.TrimRight(p.field(nameSize), "\x00"))
	p.must(Name(name), api.ErrText)
	return name
}

func (p *parser) flag() bool {
	n := p.long()
	p.must(n <= 1, api.ErrField)
	return n == 1
}

func (p *parser) key() [keySize]byte {
	key := [keySize]byte(p.field(keySize))
	p.must(keyed(key), api.ErrField)
	return key
}

// perm takes what the field has, be it of two bytes or of four.
func (p *parser) perm(n uint32) int {
	p.must(permFits(int(n)), api.ErrField)
	return int(n)
}
