package img

import (
	"bytes"

	"portreeve/api"
	"portreeve/cfg"
	"portreeve/word"
)

// magic is what a header begins with.
const magic = 0x42494d47

// Where the parts of a header stand, and how many bytes it has.
const (
	versionAt = 4
	sizeAt    = 8
	nameAt    = 16
	digestAt  = 32
	headSize  = digestAt + len(api.Node{})
)

// headed is a header with its bytes.
type headed struct {
	api.Header
	b [headSize]byte
}

// laid is of a header that is named: of another one the name is cut off.
func laid(h api.Header) headed {
	var name [digestAt - nameAt]byte
	copy(name[:], h.Name)
	b := word.Cat(word.PutBe32(nil, magic, h.Version, h.Size, 0), name[:], h.Digest[:])
	return headed{h, [headSize]byte(b)}
}

// read takes any bytes: whether they are just those of the header, whole tells.
func read(b [headSize]byte) headed {
	version, _ := word.Be32(b[:], versionAt)
	size, _ := word.Be32(b[:], sizeAt)
	name := bytes.TrimRight(b[nameAt:digestAt], "\x00")
	h := api.Header{Version: version, Size: size, Name: string(name), Digest: api.Node(b[digestAt:])}
	return headed{h, b}
}

func (h headed) named() bool { return cfg.Name(h.Name) }

// whole holds the bytes against those that Put would write, so that Of takes no others.
func (h headed) whole() bool { return h.named() && h == laid(h.Header) }

// sized asks in 64 bits: Size may be more than an int holds, and a length more than Size does.
func (h headed) sized(payload []byte) bool { return uint64(len(payload)) == uint64(h.Size) }

// ahead joins the header's bytes and parts, one behind the other.
func (h headed) ahead(parts ...[]byte) []byte {
	all := [][]byte{h.b[:]}
	return word.Cat(append(all, parts...)...)
}
