package desc

// The lowest bit of each field of a descriptor, by the names of ARMv8-A.
const (
	kindAt    = 0
	memAttrAt = 2
	readAt    = 6
	writeAt   = 7
	shareAt   = 8
	accessAt  = 10
	noExecAt  = 54
)

// topBit is the highest bit of an address in a descriptor: the bits above it are not the address's.
const topBit = 47

// field is a number, and the bit from which on it stands.
type field struct {
	n  uint64
	at int
}

// flag is a field of one bit.
func flag(set bool, at int) field {
	if set {
		return field{1, at}
	}
	return field{0, at}
}

// join relies on fields that don't reach into one another.
func join(fields ...field) uint64 {
	w := uint64(0)
	for _, f := range fields {
		w |= f.n << f.at
	}
	return w
}

func isSet(w uint64, at int) bool { return Field(w, at, at) == 1 }
