package slot

import "math/bits"

// start is what a check has ahead of its first word, factor what spreads a word's bits.
const (
	start  = 0x6e766374
	factor = 0x9e3779b1
)

// mixed: P12.1.
func mixed(words ...uint32) uint32 {
	x := uint32(start)
	for _, w := range words {
		x = bits.RotateLeft32((x^w)*factor, 15) + w
	}
	return x
}
