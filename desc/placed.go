package desc

import "portreeve/api"

const (
	firstLevel = 1
	lastLevel  = 3
)

// Each level's table parts what one descriptor of the level ahead covers by 9 bits of the address, down to a page's 12.
const (
	pageBits  = 12
	tableBits = 9
)

// What a word's bits 1 and 0 are; a page and a table have the same ones, so that the level tells them apart.
const (
	blockKind = 1
	tableKind = 3
	pageKind  = 3
)

// What a word tells of memory: Normal is written back, and inner shareable; Device is nGnRE, and outer shareable.
const (
	normalAttr  = 15
	normalShare = 3
	deviceAttr  = 1
	deviceShare = 2
)

// placed is a descriptor with the level of its table.
type placed struct {
	api.Desc
	level int
}

func sizeBits(level int) int { return pageBits + tableBits*(lastLevel-level) }

func (p placed) mayBe() bool {
	if Size(p.level) == 0 || p.PA >= api.MaxAddr {
		return false
	}
	switch p.Kind {
	case api.DescNone:
		return p.Desc == api.Desc{}
	case api.DescTable:
		return p.level < lastLevel && p.PA%api.Page == 0 && p.Desc == api.Desc{Kind: p.Kind, PA: p.PA}
	case api.DescBlock:
		return p.level < lastLevel && p.mayMap()
	case api.DescPage:
		return p.level == lastLevel && p.mayMap()
	}
	return false
}

// mayMap relies on a level that has a Size.
func (p placed) mayMap() bool {
	perm := p.Perm >= 0 && p.Perm <= api.Read|api.Write|api.Exec
	mem := p.Mem == api.Normal || p.Mem == api.Device
	return p.PA%Size(p.level) == 0 && perm && mem
}

// fields relies on a descriptor that may be.
func (p placed) fields() []field {
	switch p.Kind {
	case api.DescTable:
		return []field{{p.PA, 0}, {tableKind, kindAt}}
	case api.DescBlock:
		return append(p.mapping(), field{blockKind, kindAt})
	case api.DescPage:
		return append(p.mapping(), field{pageKind, kindAt})
	}
	return nil
}

// mapping is what blocks and pages have alike.
func (p placed) mapping() []field {
	attr, share := uint64(normalAttr), uint64(normalShare)
	if p.Mem == api.Device {
		attr, share = deviceAttr, deviceShare
	}
	return []field{
		{p.PA, 0},
		{attr, memAttrAt},
		flag(p.Perm&api.Read != 0, readAt),
		flag(p.Perm&api.Write != 0, writeAt),
		{share, shareAt},
		flag(p.AF, accessAt),
		flag(p.Perm&api.Exec == 0, noExecAt),
	}
}
