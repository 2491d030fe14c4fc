package table_test

import (
	"math/rand"
	"slices"
	"testing"

	"portreeve/api"
	"portreeve/room"
	"portreeve/table"
)

// checkPieces holds Pieces of m against what is asked, and against the model.
func checkPieces(t *testing.T, what string, m api.Map, want ...api.Map) {
	t.Helper()
	got := table.Pieces(m)
	if !slices.Equal(got, want) || !slices.Equal(got, modelPieces(m)) {
		t.Errorf("%s: Pieces(%+v) = %+v; want %+v, the model has %+v", what, m, got, want, modelPieces(m))
	}
}

func TestPiecesExample(t *testing.T) { // P19.1
	checkPieces(t, "the chapter's", part(0x1ff000, 0x401ff000, 0x202000, 7, 0),
		part(0x1ff000, 0x401ff000, page, 7, 0), part(0x200000, 0x40200000, mega, 7, 0), part(0x400000, 0x40400000, page, 7, 0))
}

func TestPiecesOne(t *testing.T) { // P19.1: of just one descriptor's size
	for perm := 1; perm <= 7; perm++ {
		for kind := range 2 {
			for _, size := range []uint64{page, mega, giga} {
				for _, m := range []api.Map{part(0, 0, size, perm, kind), part(size, 3*size, size, perm, kind), part(top-size, 0, size, perm, kind), part(0, top-size, size, perm, kind)} {
					checkPieces(t, "one piece", m, m)
				}
			}
		}
	}
}

// TestPiecesBeside has one of IPA and PA beside a multiple, or both: what is as great as a block is none, though a smaller one may lie in it.
func TestPiecesBeside(t *testing.T) { // P19.1
	for _, c := range []struct {
		size, small, off uint64
	}{
		{mega, page, page},
		{mega, page, mega - page},
		{giga, mega, mega},
		{giga, mega, 300 * mega},
	} {
		for _, m := range []api.Map{part(0, c.off, c.size, 5, 0), part(c.off, 0, c.size, 5, 0), part(c.size+c.off, c.size+c.off, c.size, 5, 0)} {
			got := table.Pieces(m)
			if uint64(len(got)) != c.size/c.small || !slices.Equal(got, modelPieces(m)) {
				t.Errorf("Pieces(%+v): %d pieces; want %d of %#x", m, len(got), c.size/c.small, c.small)
			}
			for i, piece := range got {
				if n := uint64(i) * c.small; piece != part(m.IPA+n, m.PA+n, c.small, 5, 0) {
					t.Errorf("Pieces(%+v)[%d] = %+v", m, i, piece)
				}
			}
		}
	}
}

func TestPiecesTooSmall(t *testing.T) { // P19.1: at a multiple, but with less than the block
	got := table.Pieces(part(mega, mega, mega-page, 1, 0))
	if len(got) != 511 || got[0].Size != page || got[510].Size != page {
		t.Errorf("of one page less than a block: %d pieces", len(got))
	}
	got = table.Pieces(part(giga, giga, giga-mega, 1, 0))
	if len(got) != 511 || got[0].Size != mega || got[510].Size != mega {
		t.Errorf("of one block of 2^21 less than one of 2^30: %d pieces", len(got))
	}
	checkPieces(t, "a page more than a block", part(mega, mega, mega+page, 1, 0), part(mega, mega, mega, 1, 0), part(2*mega, 2*mega, page, 1, 0))
	checkPieces(t, "two pages", part(page, 7*page, 2*page, 1, 1), part(page, 7*page, page, 1, 1), part(2*page, 8*page, page, 1, 1))
}

func TestPiecesBorder(t *testing.T) { // P19.1
	checkPieces(t, "over a border of 2^21, with too little on both sides", part(mega-page, 5*mega-page, 2*page, 3, 0),
		part(mega-page, 5*mega-page, page, 3, 0), part(mega, 5*mega, page, 3, 0))
	checkPieces(t, "over a border of 2^30, with all sizes", part(giga-mega-page, 4*giga-mega-page, giga+2*mega+2*page, 6, 1),
		part(giga-mega-page, 4*giga-mega-page, page, 6, 1), part(giga-mega, 4*giga-mega, mega, 6, 1), part(giga, 4*giga, giga, 6, 1),
		part(2*giga, 5*giga, mega, 6, 1), part(2*giga+mega, 5*giga+mega, page, 6, 1))
	checkPieces(t, "over a border of 2^30, where PA is none", part(giga-mega, giga, 2*mega, 1, 0),
		part(giga-mega, giga, mega, 1, 0), part(giga, giga+mega, mega, 1, 0))
	got := table.Pieces(part(mega-page, 2*page, 4*mega, 1, 0))
	if len(got) != 2048 || slices.ContainsFunc(got, func(m api.Map) bool { return m.Size != page }) {
		t.Errorf("where IPA and PA lie unlike within 2^21: %d pieces, of which some are blocks", len(got))
	}
}

func TestPiecesRefused(t *testing.T) { // P19.1
	checkPieces(t, "the zero part", api.Map{})
	for _, m := range []api.Map{
		part(1, 0, page, 1, 0), part(0, 8, page, 1, 0), part(0, 0, 100, 1, 0), part(0, 0, page+1, 1, 0), part(0, 0, 0, 1, 0),
		part(0, 0, page, 0, 0), part(0, 0, page, 8, 0), part(0, 0, page, -1, 0), part(0, 0, page, 1, 2), part(0, 0, page, 1, -1),
		part(top, 0, page, 1, 0), part(0, top, page, 1, 0), part(top-page, 0, 2*page, 1, 0), part(0, top-page, 2*page, 1, 0),
		part(0, 0, top+page, 1, 0), part(last-page+1, 0, page, 1, 0), part(0, last-page+1, page, 1, 0), part(page, page, last-page+1, 1, 0),
		part(last, last, last, last>>1, 1),
	} {
		checkPieces(t, "what room.Good refuses", m)
	}
}

func TestPiecesMost(t *testing.T) { // P19.1
	for _, c := range []struct {
		what string
		m    api.Map
		want int
	}{
		{"10,000 pages", part(0, page, 10000*page, 1, 0), 10000},
		{"10,001 pages", part(0, page, 10001*page, 1, 0), 0},
		{"9999 pages", part(0, page, 9999*page, 1, 0), 9999},
		{"10,000 blocks", part(0, mega, 10000*mega, 1, 0), 10000},
		{"10,001 blocks", part(0, mega, 10001*mega, 1, 0), 0},
		{"9999 blocks and a page", part(0, mega, 9999*mega+page, 1, 0), 10000},
		{"10,000 blocks and a page", part(0, mega, 10000*mega+page, 1, 0), 0},
		{"all addresses", part(0, 0, top, 1, 0), 1024},
		{"all addresses but the first and the last page", part(page, page, top-2*page, 1, 0), 1022 + 4*511},
		{"all addresses but a page, unlike", part(page, 0, top-page, 1, 0), 0},
		{"all addresses but a block, unlike", part(mega, 0, top-mega, 1, 0), 0},
	} {
		if got := table.Pieces(c.m); len(got) != c.want || !slices.Equal(got, modelPieces(c.m)) {
			t.Errorf("%s: %d pieces; want %d", c.what, len(got), c.want)
		}
	}
}

func TestPiecesAny(t *testing.T) { // P19.1: one behind the other, and what a part of them is alone
	r := rand.New(rand.NewSource(1))
	for range 4000 {
		for _, m := range someParts(r) {
			got := table.Pieces(m)
			if !slices.Equal(got, modelPieces(m)) {
				t.Fatalf("Pieces(%+v) = %+v", m, got)
			}
			if len(got) > 0 && !room.Good(got) {
				t.Fatalf("Pieces(%+v) aren't Good", m)
			}
			at := m.IPA
			for _, piece := range got {
				if piece.IPA != at || piece.PA != m.PA+at-m.IPA || piece.Perm != m.Perm || piece.Kind != m.Kind {
					t.Fatalf("Pieces(%+v) has %+v at %#x", m, piece, at)
				}
				at += piece.Size
			}
			if len(got) > 0 && at != m.IPA+m.Size {
				t.Fatalf("Pieces(%+v) ends at %#x", m, at)
			}
		}
	}
}

// checkNeed holds Need of l against what is asked, and against the model.
func checkNeed(t *testing.T, what string, want int, wantE api.Errno, l ...api.Map) {
	t.Helper()
	got, e := table.Need(l)
	if n, modelE := modelNeed(l); got != want || e != wantE || n != want || modelE != wantE {
		t.Errorf("%s: Need(%+v) = %d, %v; want %d, %v; the model has %d, %v", what, l, got, e, want, wantE, n, modelE)
	}
}

func pageAt(ipa uint64) api.Map { return part(ipa, ipa, page, 1, 0) }
func megaAt(ipa uint64) api.Map { return part(ipa, ipa, mega, 2, 0) }
func gigaAt(ipa uint64) api.Map { return part(ipa, ipa, giga, 4, 1) }

func TestNeed(t *testing.T) { // P19.2
	checkNeed(t, "no parts", 2, api.OK)
	if n, e := table.Need(nil); n != 2 || e != api.OK {
		t.Errorf("Need(nil) = %d, %v", n, e)
	}
	checkNeed(t, "the chapter's", 2+1+2, api.OK, part(0x1ff000, 0x401ff000, 0x202000, 7, 0))
	checkNeed(t, "a page", 4, api.OK, pageAt(0))
	checkNeed(t, "the last page", 4, api.OK, pageAt(top-page))
	checkNeed(t, "two pages in a row", 4, api.OK, part(0, page, 2*page, 1, 0))
	checkNeed(t, "two pages in one 2^21", 4, api.OK, pageAt(mega), pageAt(2*mega-page))
	checkNeed(t, "two pages in two", 5, api.OK, pageAt(2*mega-page), pageAt(2*mega))
	checkNeed(t, "one part in two", 5, api.OK, part(2*mega-page, 0, 2*page, 1, 0))
	checkNeed(t, "two pages in one 2^30", 5, api.OK, pageAt(giga), pageAt(2*giga-page))
	checkNeed(t, "two pages in two", 6, api.OK, pageAt(2*giga-page), pageAt(2*giga))
	checkNeed(t, "one part in two", 6, api.OK, part(2*giga-page, 0, 2*page, 1, 0))
	checkNeed(t, "at one place in two", 6, api.OK, pageAt(5*giga+7*mega), pageAt(6*giga+7*mega))
	checkNeed(t, "blocks of 2^30", 2, api.OK, gigaAt(0), gigaAt(giga), gigaAt(top-giga))
	checkNeed(t, "all addresses", 2, api.OK, part(0, 0, top, 1, 0))
	checkNeed(t, "a block of 2^21", 3, api.OK, megaAt(0))
	checkNeed(t, "blocks of 2^21 in one 2^30", 3, api.OK, megaAt(0), megaAt(mega), megaAt(giga-mega))
	checkNeed(t, "blocks of 2^21 in two", 4, api.OK, megaAt(giga-mega), megaAt(giga))
	checkNeed(t, "a block of 2^30, where PA is none", 4, api.OK, part(0, mega, giga+mega, 1, 0))
	checkNeed(t, "a page and a block of 2^21 in one 2^30", 4, api.OK, pageAt(0), megaAt(mega))
	checkNeed(t, "two parts that share a table of pages", 4, api.OK, part(0, page, 3*page, 1, 0), part(9*page, page, 3*page, 1, 0))
	checkNeed(t, "a table ahead, and one behind", 6, api.OK, pageAt(0), gigaAt(giga), pageAt(2*giga))
	checkNeed(t, "all sizes", 7, api.OK, part(giga-mega-page, 4*giga-mega-page, giga+2*mega+page, 6, 1), pageAt(3*giga))
}

func TestNeedRefused(t *testing.T) { // P19.2
	good, many := pageAt(8*giga), part(0, page, 10001*page, 1, 0)
	for _, m := range []api.Map{{}, part(1, 0, page, 1, 0), part(0, 0, 0, 1, 0), part(0, 0, page, 8, 0), part(0, 0, page, 0, 0), part(0, 0, page, 1, 2), part(0, top, page, 1, 0)} {
		checkNeed(t, "a part that may not be", 0, api.ErrMap, m)
		checkNeed(t, "ahead of another", 0, api.ErrMap, m, good)
		checkNeed(t, "behind another", 0, api.ErrMap, good, part(m.IPA+9*giga, m.PA, m.Size, m.Perm, m.Kind))
	}
	checkNeed(t, "parts that overlap", 0, api.ErrMap, megaAt(0), pageAt(mega-page))
	checkNeed(t, "the same one twice", 0, api.ErrMap, good, good)
	checkNeed(t, "parts that don't rise", 0, api.ErrMap, good, pageAt(0))
	checkNeed(t, "a part without pieces", 0, api.ErrMap, many)
	checkNeed(t, "ahead of another", 0, api.ErrMap, many, good)
	checkNeed(t, "behind another", 0, api.ErrMap, pageAt(0), part(giga, page, 10001*page, 1, 0))
	checkNeed(t, "beyond all addresses", 0, api.ErrMap, pageAt(last-page+1))
	checkNeed(t, "two of 10,000 pieces", 2+2+40, api.OK, part(0, page, 10000*page, 1, 0), part(giga, page, 10000*page, 1, 0))
}

func TestNeedAny(t *testing.T) { // P19.2
	r := rand.New(rand.NewSource(2))
	for range 2000 {
		l := someParts(r)
		got, e := table.Need(l)
		if n, modelE := modelNeed(l); got != n || e != modelE {
			t.Fatalf("Need(%+v) = %d, %v; want %d, %v", l, got, e, n, modelE)
		}
	}
}

// TestNeedLength has parts behind the list's length, which aren't the list's.
func TestNeedLength(t *testing.T) { // P19.2, P2
	l := []api.Map{pageAt(0), pageAt(giga), {Perm: -1}}
	for n, want := range []int{2, 4, 6} {
		if got, e := table.Need(l[:n]); got != want || e != api.OK {
			t.Errorf("Need of %d of them = %d, %v; want %d", n, got, e, want)
		}
	}
	a, b := table.Pieces(pageAt(0)), table.Pieces(pageAt(0))
	a[0].Perm = 7
	if b[0].Perm != 1 || !slices.Equal(table.Pieces(pageAt(0)), b) {
		t.Error("answers of Pieces share memory")
	}
}
