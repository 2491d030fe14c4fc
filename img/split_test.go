package img_test

import (
	"bytes"
	"fmt"
	"math"
	"math/rand"
	"slices"
	"testing"

	"portreeve/api"
	"portreeve/img"
	"portreeve/sha"
	"portreeve/xmss"
)

// sigSizes are by oid, as P8.1 tells them.
func sigSizes() map[uint32]int {
	return map[uint32]int{1: 4 + 32 + 67*32 + 10*32, 2: 4 + 32 + 67*32 + 16*32, 3: 4 + 32 + 67*32 + 20*32}
}

// wrongOids have no height.
func wrongOids() []uint32 {
	return []uint32{0, 4, 5, 6, 10, 16, 20, 255, 256, 257, 258, 259, 1 << 16, 1<<16 + 1, 1 << 24, 2 << 24, 1 << 31, 1<<31 + 1, 1<<31 + 3, math.MaxUint32 - 1, math.MaxUint32}
}

// run are n bytes of which those that stand together differ, and so do those of another start.
func run(start, n int) []byte {
	b := make([]byte, n)
	for i := range b {
		b[i] = byte(start + i*7 + i/256)
	}
	return b
}

// image is a header of this size, a signature and a payload.
type image struct {
	h            api.Header
	sig, payload []byte
}

// imageOf is one that may be, of this oid.
func imageOf(oid uint32, n int) image {
	payload := run(0x55, n)
	h := api.Header{Version: 0x81020304, Size: uint32(n), Name: "linux-07", Digest: sha.Sum(payload)}
	return image{h, run(0x11, sigSizes()[oid]), payload}
}

func (i image) bytes() []byte { return slices.Concat(modelPut(i.h), i.sig, i.payload) }

// modelSplit is P15.2.
func modelSplit(region []byte, oid uint32) (image, api.Errno) {
	size, is := sigSizes()[oid]
	if !is {
		return image{}, api.ErrKey
	}
	h, e := modelOf(region[:min(headSize, len(region))])
	if e != api.OK || len(region) != headSize+size+int(h.Size) {
		return image{}, api.ErrImage
	}
	return image{h, region[headSize : headSize+size], region[headSize+size:]}, api.OK
}

func checkSplit(t *testing.T, what string, region []byte, oid uint32, want image) {
	t.Helper()
	kept := slices.Clone(region)
	h, head, sig, payload, e := img.Split(region, oid)
	if h != want.h || e != api.OK {
		t.Errorf("%s: Split: %+v, error %d, want %+v", what, h, e, want.h)
	}
	checkBytes(t, what+": the header's bytes", head, modelPut(want.h))
	checkBytes(t, what+": the signature", sig, want.sig)
	checkBytes(t, what+": the payload", payload, want.payload)
	checkBytes(t, what+": what was given", region, kept)
}

// checkNotSplit asks that nothing but the error is answered.
func checkNotSplit(t *testing.T, what string, region []byte, oid uint32, want api.Errno) {
	t.Helper()
	kept := slices.Clone(region)
	h, head, sig, payload, e := img.Split(region, oid)
	if e != want || h != (api.Header{}) || len(head)+len(sig)+len(payload) != 0 {
		t.Errorf("%s: Split: %+v, %d, %d and %d bytes, error %d, want %d", what, h, len(head), len(sig), len(payload), e, want)
	}
	checkBytes(t, what+": what was given", region, kept)
}

func checkModel(t *testing.T, what string, region []byte, oid uint32) {
	t.Helper()
	want, e := modelSplit(region, oid)
	if e == api.OK {
		checkSplit(t, what, region, oid, want)
	} else {
		checkNotSplit(t, what, region, oid, e)
	}
	if t.Failed() { // it is asked so often that all it tells would be too much
		t.FailNow()
	}
}

func checkPack(t *testing.T, what string, i image) {
	t.Helper()
	b, e := img.Pack(i.h, i.sig, i.payload)
	if e != api.OK {
		t.Errorf("%s: Pack: error %d", what, e)
	}
	checkBytes(t, what+": Pack", b, i.bytes())
}

func checkNotPacked(t *testing.T, what string, i image) {
	t.Helper()
	if b, e := img.Pack(i.h, i.sig, i.payload); len(b) != 0 || e != api.ErrImage {
		t.Errorf("%s: Pack: %d bytes, error %d", what, len(b), e)
	}
}

func lengths() []int {
	return []int{0, 1, 2, 31, 63, 64, 65, 255, 256, 257, 4096, 65535, 65536, 70000, 1<<20 + 3}
}

func TestSplit(t *testing.T) { // P15.2: each part, byte by byte
	for oid := range sigSizes() {
		for _, n := range lengths() {
			i := imageOf(oid, n)
			checkSplit(t, fmt.Sprint("oid ", oid, ", ", n, " bytes"), i.bytes(), oid, i)
		}
	}
}

func TestSplitByHand(t *testing.T) { // P15.2
	sig := bytes.Repeat([]byte{0xee}, 2500)
	sig[0], sig[2499] = 1, 2
	h := api.Header{Version: 0x81020304, Size: 3, Name: "linux-07", Digest: counting(0xa0)}
	head := with(fullBytes(), 8, []byte{0, 0, 0, 3})
	region := slices.Concat(head, sig, []byte{7, 8, 9})
	checkSplit(t, "oid 1", region, 1, image{h, sig, []byte{7, 8, 9}})
	checkNotSplit(t, "oid 2", region, 2, api.ErrImage)
	checkNotSplit(t, "oid 3", region, 3, api.ErrImage)
}

func TestSplitWithoutHeight(t *testing.T) { // P15.2, P4: ErrKey, of an image and ahead of ErrImage
	for _, oid := range wrongOids() {
		for right := range sigSizes() {
			checkNotSplit(t, fmt.Sprint("an image, oid ", oid), imageOf(right, 5).bytes(), oid, api.ErrKey)
		}
		none := with(imageOf(1, 5).bytes(), 0, []byte{0})
		for _, region := range [][]byte{nil, {}, {0}, fullBytes(), fullBytes()[:63], make([]byte, 64), make([]byte, 2564), none} {
			checkNotSplit(t, fmt.Sprint(len(region), " bytes that are no image, oid ", oid), region, oid, api.ErrKey)
		}
	}
}

func TestSplitOfAnotherOid(t *testing.T) { // P15.2: the payload's length is held against that oid's signature
	for oid := range sigSizes() {
		for other := range sigSizes() {
			for _, n := range []int{0, 1, 200, 300, 400} {
				checkModel(t, fmt.Sprint("an image of oid ", oid, ", asked by oid ", other), imageOf(oid, n).bytes(), other)
			}
		}
	}
	i := imageOf(1, 0) // the same bytes are one image by oid 1, and another one by oid 2
	i.h.Size, i.payload = 192, run(3, 192)
	checkSplit(t, "oid 1", i.bytes(), 1, i)
	checkNotSplit(t, "oid 2", i.bytes(), 2, api.ErrImage)
	i.h.Size, i.sig, i.payload = 0, slices.Concat(i.sig, i.payload), nil
	checkSplit(t, "oid 2", i.bytes(), 2, i)
	checkNotSplit(t, "oid 1", i.bytes(), 1, api.ErrImage)
}

func TestSplitOfLengths(t *testing.T) { // P15.2: cut off anywhere, and with some bytes more
	for oid, size := range sigSizes() {
		for _, n := range []int{0, 1, 5} {
			whole := imageOf(oid, n).bytes()
			long := append(slices.Clone(whole), run(9, 70)...)
			for end := range long {
				checkModel(t, fmt.Sprint("oid ", oid, ", ", end, " of ", len(whole), " bytes"), long[:end], oid)
			}
			for _, end := range []int{0, 1, 63, 64, 65, 64 + size - 1, len(whole) - 1, len(whole) + 1} {
				checkNotSplit(t, fmt.Sprint("oid ", oid, ", ", end, " bytes"), slices.Clone(long[:end]), oid, api.ErrImage)
			}
		}
		checkNotSplit(t, "nil", nil, oid, api.ErrImage)
		checkNotSplit(t, "no bytes", []byte{}, oid, api.ErrImage)
		checkSplit(t, "without payload", imageOf(oid, 0).bytes(), oid, imageOf(oid, 0))
	}
}

func TestSplitOfSizes(t *testing.T) { // P15.2: just so many bytes, whichever bits of Size differ
	for oid := range sigSizes() {
		for _, n := range []int{0, 1, 5, 256, 65536} {
			sizes := append(numbers(), uint32(n-1), uint32(n), uint32(n+1), uint32(-n), uint32(n+1<<8), uint32(n+1<<16), uint32(n+1<<24), uint32(n+1<<31))
			for _, size := range sizes {
				i := imageOf(oid, n)
				i.h.Size = size
				checkModel(t, fmt.Sprint("oid ", oid, ", Size ", size, " of ", n, " bytes"), i.bytes(), oid)
			}
		}
	}
}

func TestSplitOfWrongHeaders(t *testing.T) { // P15.2: each byte of the header, with every value
	for oid, n := range map[uint32]int{1: 0, 2: 7, 3: 300} {
		whole := imageOf(oid, n).bytes()
		for at := range headSize {
			for x := range 256 {
				checkModel(t, fmt.Sprintf("oid %d, byte %d: %#x", oid, at, x), with(whole, at, []byte{byte(x)}), oid)
			}
		}
		for _, s := range names() {
			checkModel(t, s, with(whole, 16, filled(s)), oid)
		}
		for _, at := range []int{0, 3, 12, 15, 16, 31} {
			checkNotSplit(t, fmt.Sprint("byte ", at), with(whole, at, []byte{0x7f}), oid, api.ErrImage)
		}
		for at := headSize; at < len(whole); at++ { // of what stands behind it nothing is asked
			checkModel(t, fmt.Sprint("byte ", at), with(whole, at, []byte{^whole[at]}), oid)
		}
	}
}

// parts are what Split answers of bytes.
func parts(region []byte, oid uint32) [][]byte {
	_, head, sig, payload, _ := img.Split(region, oid)
	return [][]byte{head, sig, payload}
}

func TestSplitSharesNothing(t *testing.T) { // P2: with the region, with one another, with another answer
	for oid := range sigSizes() {
		for _, n := range []int{0, 1, 100} {
			i := imageOf(oid, n)
			region := append(i.bytes(), run(1, 64)...)
			kept := slices.Clone(region)
			whole := region[:len(region)-64]
			want := [][]byte{modelPut(i.h), i.sig, i.payload}
			other := parts(whole, oid)
			for spoilt := range want {
				l := parts(whole, oid)
				clear(l[spoilt][:cap(l[spoilt])])
				for at, part := range l {
					if at != spoilt {
						checkBytes(t, fmt.Sprint("part ", at, " behind a change of part ", spoilt), part, want[at])
					}
				}
				checkBytes(t, "the region, and what lies behind it", region, kept)
			}
			h, _, _, _, _ := img.Split(whole, oid)
			clear(region)
			for at, part := range other {
				checkBytes(t, fmt.Sprint("part ", at, " of another answer"), part, want[at])
			}
			if h != i.h {
				t.Errorf("the header changes with the region: %+v", h)
			}
		}
	}
}

func TestPack(t *testing.T) { // P15.2
	i := image{full(), []byte{1, 2}, []byte{3, 4, 5}}
	i.h.Size = 3
	b, e := img.Pack(i.h, i.sig, i.payload)
	if e != api.OK {
		t.Error(e)
	}
	checkBytes(t, "Pack", b, append(with(fullBytes(), 8, []byte{0, 0, 0, 3}), 1, 2, 3, 4, 5))
	for _, n := range lengths() {
		for _, size := range []int{0, 1, 2499, 2500, 2501, 2692, 2820, 70000} {
			checkPack(t, fmt.Sprint(size, " and ", n, " bytes"), image{imageOf(1, n).h, run(4, size), run(5, n)})
		}
	}
	h := full()
	h.Size = 0
	for _, none := range [][]byte{nil, {}} { // P3
		checkPack(t, "without signature and payload", image{h, none, none})
		checkPack(t, "without payload", image{h, []byte{1}, none})
		checkPack(t, "without signature", image{i.h, none, i.payload})
	}
}

func TestPackOfWrongNames(t *testing.T) { // P15.2: Put's error
	for _, s := range wrongNames() {
		i := imageOf(1, 5)
		i.h.Name = s
		checkNotPacked(t, fmt.Sprintf("%q", s), i)
		i.h.Size++
		checkNotPacked(t, fmt.Sprintf("%q, of a wrong Size", s), i)
		checkNotPacked(t, fmt.Sprintf("%q alone", s), image{h: api.Header{Name: s}})
	}
	for _, s := range names() {
		i := imageOf(1, 5)
		i.h.Name = s
		checkPack(t, s, i)
	}
	checkNotPacked(t, "the zero header", image{})
}

func TestPackOfWrongSizes(t *testing.T) { // P15.2
	for _, n := range []int{0, 1, 5, 255, 256, 2500, 65536} {
		sizes := append(numbers(), uint32(n-1), uint32(n+1), uint32(-n), uint32(n+1<<8), uint32(n+1<<16), uint32(n+1<<24), uint32(n+1<<31))
		for _, size := range sizes {
			i := imageOf(1, n)
			i.h.Size = size
			if size == uint32(n) {
				checkPack(t, fmt.Sprint("Size ", size), i)
			} else {
				checkNotPacked(t, fmt.Sprint("Size ", size, " of ", n, " bytes"), i)
			}
		}
	}
	i := imageOf(1, 5) // that of both together is wrong
	i.h.Size = uint32(len(i.sig) + len(i.payload))
	checkNotPacked(t, "the size of signature and payload", i)
	i.h.Size = uint32(len(i.sig))
	checkNotPacked(t, "the size of the signature", i)
}

func TestPackSharesNothing(t *testing.T) { // P2
	i := imageOf(1, 100)
	want := i.bytes()
	sig := append(slices.Clone(i.sig), run(8, 300)...)
	payload := append(slices.Clone(i.payload), run(9, 300)...)
	keptSig, keptPayload := slices.Clone(sig), slices.Clone(payload)
	b, _ := img.Pack(i.h, sig[:len(i.sig)], payload[:len(i.payload)])
	other, _ := img.Pack(i.h, sig[:len(i.sig)], payload[:len(i.payload)])
	checkBytes(t, "Pack", b, want)
	clear(b[:cap(b)])
	checkBytes(t, "the signature, and what lies behind it", sig, keptSig)
	checkBytes(t, "the payload, and what lies behind it", payload, keptPayload)
	clear(sig)
	clear(payload)
	checkBytes(t, "another answer", other, want)
	both := append(slices.Clone(i.sig), i.payload...) // the payload lies just behind the signature
	again, _ := img.Pack(i.h, both[:len(i.sig)], both[len(i.sig):])
	checkBytes(t, "of one list", again, want)
	alone, _ := img.Pack(api.Header{Name: "a"}, nil, nil)
	twin, _ := img.Pack(api.Header{Name: "a"}, nil, nil)
	clear(alone[:cap(alone)])
	checkBytes(t, "a header alone", twin, modelPut(api.Header{Name: "a"}))
}

// checkThereAndBack is P15.3, of one image.
func checkThereAndBack(t *testing.T, what string, i image, oid uint32) {
	t.Helper()
	checkPack(t, what, i)
	b, _ := img.Pack(i.h, i.sig, i.payload)
	checkSplit(t, what, b, oid, i)
}

func TestThereAndBack(t *testing.T) { // P15.3
	for oid := range sigSizes() {
		for _, n := range lengths() {
			checkThereAndBack(t, fmt.Sprint("oid ", oid, ", ", n, " bytes"), imageOf(oid, n), oid)
		}
	}
	r := rand.New(rand.NewSource(153))
	for n := range 3000 {
		oid := uint32(1 + r.Intn(3))
		i := image{sig: make([]byte, sigSizes()[oid]), payload: make([]byte, r.Intn(1000)/(1+r.Intn(20)))}
		r.Read(i.sig)
		r.Read(i.payload)
		i.h = anyHeader(r, uint32(len(i.payload)))
		checkThereAndBack(t, fmt.Sprint("image ", n), i, oid)
	}
}

func TestSplitBack(t *testing.T) { // P15.2, P15.3: what Split takes Pack writes as just these bytes
	r := rand.New(rand.NewSource(152))
	taken := 0
	for n := range 3000 {
		oid := uint32(1 + r.Intn(3))
		region := imageOf(oid, r.Intn(5)).bytes()
		region[r.Intn(36)] = [...]byte{0, 1, 3, 'q'}[r.Intn(4)]
		checkModel(t, fmt.Sprint("region ", n), region, oid)
		h, _, sig, payload, e := img.Split(region, oid)
		if e == api.OK {
			taken++
			b, _ := img.Pack(h, sig, payload)
			checkBytes(t, fmt.Sprint("region ", n), b, region)
		}
	}
	if taken < 300 || taken > 2700 {
		t.Error(taken)
	}
}

func TestOfASignature(t *testing.T) { // P15.3, P8.6: what is signed is the header's bytes
	payload := []byte("the guest")
	h := api.Header{Version: 3, Size: uint32(len(payload)), Name: "linux", Digest: sha.Sum(payload)}
	for oid, height := range map[uint32]int{1: 10, 2: 16, 3: 20} {
		secret, auth := counting(1), make([]api.Node, height)
		k, _ := xmss.Make(oid, secret, counting(2), 7, auth)
		head, _ := img.Put(h)
		signed, _ := xmss.Sign(k, secret, 7, auth, counting(3), head)
		region, e := img.Pack(h, signed, payload)
		key, _ := xmss.PutKey(k)
		back, head, sig, rest, f := img.Split(region, oid)
		if e != api.OK || f != api.OK || back != h || back.Digest != sha.Sum(rest) || xmss.Verify(key, head, sig) != api.OK {
			t.Errorf("oid %d: errors %d, %d, Verify %d", oid, e, f, xmss.Verify(key, head, sig))
		}
	}
}
