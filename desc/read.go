package desc

import "portreeve/api"

// read tells of any word, also of such as Put doesn't write.
func read(level int, w uint64) placed {
	p := placed{api.Desc{Kind: kindOf(level, w)}, level}
	switch p.Kind {
	case api.DescTable:
		p.PA = address(w, pageBits)
	case api.DescBlock, api.DescPage:
		p.PA = address(w, sizeBits(level))
		p.Perm = permOf(w)
		p.Mem = memOf(w)
		p.AF = isSet(w, accessAt)
	}
	return p
}

func kindOf(level int, w uint64) int {
	last, second := level == lastLevel, isSet(w, kindAt+1)
	switch {
	case Size(level) == 0 || !isSet(w, kindAt):
		return api.DescNone
	case last && second:
		return api.DescPage
	case last:
		return api.DescNone
	case second:
		return api.DescTable
	}
	return api.DescBlock
}

// address leaves out the bits below lo, which are not the address's either.
func address(w uint64, lo int) uint64 { return Field(w, topBit, lo) << lo }

func permOf(w uint64) int {
	perm := 0
	if isSet(w, readAt) {
		perm |= api.Read
	}
	if isSet(w, writeAt) {
		perm |= api.Write
	}
	if !isSet(w, noExecAt) {
		perm |= api.Exec
	}
	return perm
}

// memOf asks the upper two of memAttr's bits alone: the lower two tell which kind of Device, or how Normal is kept within.
func memOf(w uint64) int {
	if Field(w, memAttrAt+3, memAttrAt+2) == 0 {
		return api.Device
	}
	return api.Normal
}
