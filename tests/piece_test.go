package tests

import (
	"bytes"
	"encoding/binary"
	"math"
	"slices"
	"strings"
	"testing"

	"loop.example/g00647/impl"
)

const maxPieces = impl.MaxThing / impl.PieceLong

// badLongs lie just outside 0..MaxThing and at the ends of int, where rounding up would overflow.
var badLongs = []int{math.MinInt, math.MinInt + 1, -96, -4, -3, -2, -1, 97, 98, 99, 100, 101, 1000, math.MaxInt - 3, math.MaxInt - 2, math.MaxInt}

// badPieces lie just outside 0..2^32 - 1, and above it with valid lower bits.
var badPieces = []int{math.MinInt, -1 << 32, -2, -1, 1 << 32, 1<<32 + 1, 1<<33 - 1, 1 << 40, math.MaxInt}

var tooLong = []string{
	strings.Repeat("a", 97), strings.Repeat("b", 98), strings.Repeat("c", 99), strings.Repeat("\x00", 100),
	strings.Repeat("d", 128), strings.Repeat("\xff", 1000), strings.Repeat("e", 1<<16),
}

func mixedText(long int, seed uint64) string {
	text := make([]byte, long)
	for k, n := range mixedRows(8, long, seed) {
		text[k] = byte(n)
	}
	return string(text)
}

// countingText has the bytes 1, 2, 3 and so on, so that a byte in a wrong place shows.
func countingText(long int) string {
	text := make([]byte, long)
	for k := range text {
		text[k] = byte(k + 1)
	}
	return string(text)
}

// eachThing gives things of every length: with all bytes different, with bytes at both ends of the range, with zero bytes at the end, and mixed ones.
func eachThing(f func(s string)) {
	for long := 0; long <= impl.MaxThing; long++ {
		s := countingText(long)
		f(s)
		for zeros := 1; zeros <= min(long, 9); zeros++ {
			f(s[:long-zeros] + strings.Repeat("\x00", zeros))
		}
		for _, b := range []string{"\x00", "\x01", "\x7f", "\x80", "\xff"} {
			f(strings.Repeat(b, long))
		}
		for seed := range 4 {
			f(mixedText(long, uint64(long*10+seed)))
		}
	}
}

// piecesIn pads the whole string and reads its words.
func piecesIn(s string) []int {
	text := []byte(s)
	for len(text)%4 != 0 {
		text = append(text, 0)
	}
	var pieces []int
	for group := range slices.Chunk(text, 4) {
		pieces = append(pieces, int(binary.BigEndian.Uint32(group)))
	}
	return pieces
}

func textIn(pieces []int) string {
	var text []byte
	for _, piece := range pieces {
		text = binary.BigEndian.AppendUint32(text, uint32(piece))
	}
	return string(text)
}

// dealt deals the pieces out one by one: the first blocks get one more if the pieces do not last for a whole turn.
func dealt(pieces int, blocks int) []int {
	sizes := make([]int, blocks)
	for k := range pieces {
		sizes[k%blocks]++
	}
	return sizes
}

// sizesFor adds blocks until no one of them would be too large.
func sizesFor(pieces int) []int {
	blocks := 0
	for pieces > blocks*impl.MaxBlock {
		blocks++
	}
	return dealt(pieces, blocks)
}

// blocksIn takes the text of each block out of the padded string.
func blocksIn(s string) []impl.Block {
	var blocks []impl.Block
	for _, size := range sizesFor(len(piecesIn(s))) {
		long := min(4*size, len(s))
		blocks = append(blocks, impl.Block{Long: long, Pieces: piecesIn(s[:long])})
		s = s[long:]
	}
	return blocks
}

func equalBlocks(a []impl.Block, b []impl.Block) bool {
	return slices.EqualFunc(a, b, func(x, y impl.Block) bool {
		return x.Long == y.Long && slices.Equal(x.Pieces, y.Pieces)
	})
}

func cloneBlocks(l []impl.Block) []impl.Block {
	l = slices.Clone(l)
	for k := range l {
		l[k].Pieces = slices.Clone(l[k].Pieces)
	}
	return l
}

func TestPieceLimits(t *testing.T) {
	if impl.MaxThing != 96 || impl.PieceLong != 4 || impl.MaxBlock != 8 {
		t.Fatal(impl.MaxThing, impl.PieceLong, impl.MaxBlock)
	}
}

func TestPartOf(t *testing.T) {
	for pieces := 1; pieces <= 100; pieces++ {
		for blocks := 1; blocks <= pieces; blocks++ {
			sizes := dealt(pieces, blocks)
			large, small := slices.Max(sizes), slices.Min(sizes)
			larger, smaller := 0, 0
			for _, size := range sizes {
				if size > small {
					larger++
				} else {
					smaller++
				}
			}
			a, b, m, n, ok := impl.PartOf(pieces, blocks)
			if a != large || b != small || m != larger || n != smaller || !ok {
				t.Fatal(pieces, blocks, a, b, m, n, ok)
			}
		}
	}
}

func TestKnownParts(t *testing.T) {
	for _, c := range [][6]int{
		{7, 3, 3, 2, 1, 2},
		{6, 3, 2, 2, 0, 3},
		{8, 3, 3, 2, 2, 1},
		{1, 1, 1, 1, 0, 1},
		{9, 1, 9, 9, 0, 1},
		{9, 9, 1, 1, 0, 9},
		{9, 8, 2, 1, 1, 7},
		{9, 2, 5, 4, 1, 1},
		{24, 3, 8, 8, 0, 3},
		{100, 1, 100, 100, 0, 1},
		{100, 99, 2, 1, 1, 98},
		{100, 100, 1, 1, 0, 100},
		{99, 98, 2, 1, 1, 97},
	} {
		a, b, m, n, ok := impl.PartOf(c[0], c[1])
		if a != c[2] || b != c[3] || m != c[4] || n != c[5] || !ok {
			t.Error(c, a, b, m, n, ok)
		}
	}
}

func TestPartOfRefuses(t *testing.T) {
	refuse := func(pieces int, blocks int) {
		t.Helper()
		if a, b, m, n, ok := impl.PartOf(pieces, blocks); a != 0 || b != 0 || m != 0 || n != 0 || ok {
			t.Error(pieces, blocks, a, b, m, n, ok)
		}
	}
	edges := []int{math.MinInt, -101, -100, -7, -1, 0, 1, 2, 7, 100, 101, 102, 1000, math.MaxInt}
	for _, pieces := range []int{math.MinInt, -100, -2, -1, 0, 101, 102, 200, 1000, math.MaxInt} {
		for _, blocks := range append(edges, pieces) {
			refuse(pieces, blocks)
		}
	}
	for pieces := 1; pieces <= 100; pieces++ {
		for _, blocks := range []int{math.MinInt, -pieces, -1, 0, pieces + 1, pieces + 2, 2 * pieces, 101, math.MaxInt} {
			refuse(pieces, blocks)
		}
	}
}

func TestPiecesOf(t *testing.T) {
	eachThing(func(s string) {
		if l, ok := impl.PiecesOf(s); !ok || !slices.Equal(l, piecesIn(s)) {
			t.Fatalf("%q %v %v", s, l, ok)
		}
	})
}

func TestKnownPieces(t *testing.T) {
	for _, c := range []struct {
		text   string
		pieces []int
	}{
		{"", nil},
		{"a", []int{0x61000000}},
		{"abc", []int{0x61626300}},
		{"abcd", []int{0x61626364}},
		{"abcde", []int{0x61626364, 0x65000000}},
		{"a\x00", []int{0x61000000}},
		{"abcd\x00", []int{0x61626364, 0}},
		{"abcdefgh", []int{0x61626364, 0x65666768}},
		{"\x00", []int{0}},
		{"\x00\x00\x00\x00\x00", []int{0, 0}},
		{"\x00\x00\x00\x01", []int{1}},
		{"\x80", []int{0x80000000}},
		{"\xff\xff\xff\xff", []int{1<<32 - 1}},
		{"\xff\xff\xff\xff\xff", []int{1<<32 - 1, 0xff000000}},
		{"é∀", []int{0xc3a9e288, 0x80000000}},
	} {
		if l, ok := impl.PiecesOf(c.text); !ok || !slices.Equal(l, c.pieces) {
			t.Errorf("PiecesOf %q %v %v", c.text, l, ok)
		}
		if s, ok := impl.TextOf(c.pieces, len(c.text)); s != c.text || !ok {
			t.Errorf("TextOf %q %q %v", c.text, s, ok)
		}
	}
}

func TestPieceAt(t *testing.T) {
	eachThing(func(s string) {
		pieces := piecesIn(s)
		for k, piece := range pieces {
			if n, ok := impl.PieceAt(s, k); n != piece || !ok {
				t.Fatalf("%q %d %d %v", s, k, n, ok)
			}
		}
		for _, k := range []int{math.MinInt, -len(s), -len(pieces), -2, -1, len(pieces), len(pieces) + 1, len(s) + 1, maxPieces, impl.MaxThing, math.MaxInt} {
			if k >= 0 && k < len(pieces) {
				continue
			}
			if n, ok := impl.PieceAt(s, k); n != 0 || ok {
				t.Fatalf("%q %d %d %v", s, k, n, ok)
			}
		}
	})
}

// The first and the last index against PiecesOf, as the lengths at the bounds of pieces and blocks have them.
func TestPieceAtAgreesWithPiecesOf(t *testing.T) {
	for _, long := range []int{1, 3, 4, 5, 31, 32, 33, 64, 65, 96} {
		s := mixedText(long, uint64(long))
		l, _ := impl.PiecesOf(s)
		if len(l) != (long+3)/4 {
			t.Fatal(long, l)
		}
		for _, k := range []int{0, len(l) - 1} {
			if n, ok := impl.PieceAt(s, k); n != l[k] || !ok {
				t.Error(long, k, n, ok)
			}
		}
	}
}

func TestTextOf(t *testing.T) {
	eachThing(func(s string) {
		if text, ok := impl.TextOf(piecesIn(s), len(s)); text != s || !ok {
			t.Fatalf("%q %q %v", s, text, ok)
		}
	})
	for _, empty := range [][]int{nil, {}} {
		if text, ok := impl.TextOf(empty, 0); text != "" || !ok {
			t.Error(text, ok)
		}
	}
}

// TextOf requires no padding: it returns the first bytes, whatever follows them.
func TestTextOfDropsTheLastBytes(t *testing.T) {
	for count := 1; count <= maxPieces; count++ {
		pieces := mixedRows(32, count, uint64(count))
		pieces[count-1] = 0xa1b2c3d4
		whole := textIn(pieces)
		for long := 4*count - 3; long <= 4*count; long++ {
			if text, ok := impl.TextOf(pieces, long); text != whole[:long] || !ok {
				t.Fatalf("%v %d %q %v", pieces, long, text, ok)
			}
		}
	}
}

func refuseText(t *testing.T, pieces []int, long int) {
	t.Helper()
	if text, ok := impl.TextOf(pieces, long); text != "" || ok {
		t.Errorf("TextOf %v %d %q %v", pieces, long, text, ok)
	}
	if text, ok := impl.GlueThing([]impl.Block{{Long: long, Pieces: pieces}}); text != "" || ok {
		t.Errorf("GlueThing %v %d %q %v", pieces, long, text, ok)
	}
}

func TestTextOfRefusesOtherNumbersOfPieces(t *testing.T) {
	for count := 0; count <= maxPieces+3; count++ {
		pieces := make([]int, count)
		for long := 0; long <= impl.MaxThing; long++ {
			if long > 4*count || long <= 4*count-4 {
				refuseText(t, pieces, long)
			}
		}
		for _, long := range append(badLongs, 4*count+1, -4*count-1) {
			refuseText(t, pieces, long)
		}
	}
	for _, count := range []int{25, 26, 100, 1000} {
		refuseText(t, make([]int, count), 4*count)
		refuseText(t, make([]int, count), 4*count-3)
	}
}

func TestTextOfRefusesInvalidPieces(t *testing.T) {
	for count := 1; count <= maxPieces; count++ {
		for at := range count {
			for _, piece := range badPieces {
				pieces := make([]int, count)
				pieces[at] = piece
				for long := 4*count - 3; long <= 4*count; long++ {
					refuseText(t, pieces, long)
				}
			}
		}
	}
}

func TestBlocksFor(t *testing.T) {
	for long := 0; long <= impl.MaxThing; long++ {
		want := 0
		for 32*want < long {
			want++
		}
		if n, ok := impl.BlocksFor(long); n != want || !ok {
			t.Error(long, n, ok)
		}
	}
	for long, want := range map[int]int{0: 0, 1: 1, 4: 1, 5: 1, 28: 1, 29: 1, 32: 1, 33: 2, 64: 2, 65: 3, 96: 3} {
		if n, ok := impl.BlocksFor(long); n != want || !ok {
			t.Error(long, n, ok)
		}
	}
	for _, long := range badLongs {
		if n, ok := impl.BlocksFor(long); n != 0 || ok {
			t.Error(long, n, ok)
		}
	}
}

func TestCutThing(t *testing.T) {
	eachThing(func(s string) {
		if l, ok := impl.CutThing(s); !ok || !equalBlocks(l, blocksIn(s)) {
			t.Fatalf("%q %v %v", s, l, ok)
		}
	})
}

func TestKnownCuts(t *testing.T) {
	for _, c := range []struct {
		long         int
		longs, sizes []int
	}{
		{0, nil, nil},
		{1, []int{1}, []int{1}},
		{3, []int{3}, []int{1}},
		{4, []int{4}, []int{1}},
		{5, []int{5}, []int{2}},
		{31, []int{31}, []int{8}},
		{32, []int{32}, []int{8}},
		{33, []int{20, 13}, []int{5, 4}},
		{36, []int{20, 16}, []int{5, 4}},
		{37, []int{20, 17}, []int{5, 5}},
		{64, []int{32, 32}, []int{8, 8}},
		{65, []int{24, 24, 17}, []int{6, 6, 5}},
		{73, []int{28, 24, 21}, []int{7, 6, 6}},
		{96, []int{32, 32, 32}, []int{8, 8, 8}},
	} {
		s := countingText(c.long)
		l, ok := impl.CutThing(s)
		if !ok || len(l) != len(c.sizes) {
			t.Fatal(c, l, ok)
		}
		for k, block := range l {
			if block.Long != c.longs[k] || !slices.Equal(block.Pieces, piecesIn(s[:block.Long])) || len(block.Pieces) != c.sizes[k] {
				t.Error(c, k, block)
			}
			s = s[block.Long:]
		}
	}
}

// Promise 4, first half.
func TestGluingTheBlocksReturnsTheThing(t *testing.T) {
	eachThing(func(s string) {
		l, ok := impl.CutThing(s)
		if !ok {
			t.Fatalf("%q", s)
		}
		if text, ok := impl.GlueThing(l); text != s || !ok {
			t.Fatalf("%q %v %q %v", s, l, text, ok)
		}
		pieces, _ := impl.PiecesOf(s)
		if text, ok := impl.TextOf(pieces, len(s)); text != s || !ok {
			t.Fatalf("%q %v %q %v", s, pieces, text, ok)
		}
	})
}

// Promise 4, second half.
func TestSizesOfBlocksDifferByAtMostOne(t *testing.T) {
	unequal := false
	eachThing(func(s string) {
		l, ok := impl.CutThing(s)
		if count, _ := impl.BlocksFor(len(s)); !ok || len(l) != count {
			t.Fatalf("%q %v %v", s, l, ok)
		}
		for k, a := range l {
			if len(a.Pieces) < 1 || len(a.Pieces) > impl.MaxBlock {
				t.Fatalf("%q %v", s, l)
			}
			for _, b := range l[:k] {
				// The larger blocks come first.
				if less := len(b.Pieces) - len(a.Pieces); less != 0 && less != 1 {
					t.Fatalf("%q %v", s, l)
				}
				unequal = unequal || len(a.Pieces) != len(b.Pieces)
			}
		}
	})
	if !unequal {
		t.Error("no thing with blocks of different sizes")
	}
}

func TestEmptyThing(t *testing.T) {
	if l, ok := impl.PiecesOf(""); len(l) != 0 || !ok {
		t.Error("PiecesOf", l, ok)
	}
	if l, ok := impl.CutThing(""); len(l) != 0 || !ok {
		t.Error("CutThing", l, ok)
	}
	for _, empty := range [][]impl.Block{nil, {}} {
		if s, ok := impl.GlueThing(empty); s != "" || !ok {
			t.Error("GlueThing", s, ok)
		}
	}
}

func TestLongStringsAreNoThings(t *testing.T) {
	for _, s := range tooLong {
		if l, ok := impl.PiecesOf(s); len(l) != 0 || ok {
			t.Error("PiecesOf", len(s), l, ok)
		}
		if l, ok := impl.CutThing(s); len(l) != 0 || ok {
			t.Error("CutThing", len(s), l, ok)
		}
		for _, k := range []int{math.MinInt, -1, 0, 1, 23, 24, 25, len(s), math.MaxInt} {
			if n, ok := impl.PieceAt(s, k); n != 0 || ok {
				t.Error("PieceAt", len(s), k, n, ok)
			}
		}
	}
}

func refuseBlocks(t *testing.T, l []impl.Block) {
	t.Helper()
	if s, ok := impl.GlueThing(l); s != "" || ok {
		t.Errorf("%v %q %v", l, s, ok)
	}
}

// fullBlocks is the list of full blocks of these sizes, each byte of the text marked by its place.
func fullBlocks(sizes ...int) []impl.Block {
	all := 0
	for _, size := range sizes {
		all += size
	}
	s := countingText(4 * all)
	var l []impl.Block
	for _, size := range sizes {
		l = append(l, impl.Block{Long: 4 * size, Pieces: piecesIn(s[:4*size])})
		s = s[4*size:]
	}
	return l
}

// All lists of sizes, of which only those of CutThing are glued; with the last block full and not.
func TestGlueThingTakesOnlyTheSizesOfCutThing(t *testing.T) {
	check := func(sizes ...int) {
		pieces := 0
		for _, size := range sizes {
			pieces += size
		}
		l := fullBlocks(sizes...)
		if pieces > maxPieces || !slices.Equal(sizes, sizesFor(pieces)) {
			refuseBlocks(t, l)
			return
		}
		for short := range 4 {
			last := &l[len(l)-1]
			last.Long = 4*len(last.Pieces) - short
			// The padding has to be zero.
			last.Pieces[len(last.Pieces)-1] &^= 1<<(8*short) - 1
			want := countingText(4*pieces - short)
			if s, ok := impl.GlueThing(l); s != want || !ok {
				t.Fatalf("%v %q %v", l, s, ok)
			}
		}
	}
	for a := range maxPieces + 2 {
		check(a)
		for b := range maxPieces + 2 {
			check(a, b)
			for c := range 12 {
				check(a, b, c)
			}
		}
	}
}

func TestGlueThingRefusesManyBlocks(t *testing.T) {
	for _, sizes := range [][]int{
		{1, 1, 1, 1}, {6, 6, 6, 6}, {7, 7, 6, 5}, {8, 8, 8, 1}, {8, 8, 8, 0}, {0, 8, 8, 8}, {0, 0, 0, 0}, {8, 8, 8, 8},
		{5, 5, 5, 5, 4}, make([]int, 100),
	} {
		refuseBlocks(t, fullBlocks(sizes...))
	}
	eachThing(func(s string) {
		if l := blocksIn(s); len(l) > 0 {
			refuseBlocks(t, append(l, impl.Block{}))
			refuseBlocks(t, append([]impl.Block{{}}, l...))
		}
	})
	refuseBlocks(t, make([]impl.Block, 1))
	refuseBlocks(t, make([]impl.Block, 3))
	refuseBlocks(t, make([]impl.Block, 1<<16))
}

// The thing of zero bytes has the same pieces with its last byte and without it: only Long tells them apart.
func TestGlueThingRefusesBlocksThatAreNotFull(t *testing.T) {
	for long := 33; long <= impl.MaxThing; long++ {
		for _, s := range []string{countingText(long), strings.Repeat("\x00", long), strings.Repeat("\xff", long), mixedText(long, 7)} {
			for at := range len(blocksIn(s)) - 1 {
				for short := 1; short <= 4; short++ {
					l := blocksIn(s)
					l[at].Long -= short
					refuseBlocks(t, l)
					// The padding of the block that is not full may be zero.
					l[at].Pieces[len(l[at].Pieces)-1] = 0
					refuseBlocks(t, l)
				}
			}
		}
	}
}

func TestGlueThingRefusesPaddingThatIsNotZero(t *testing.T) {
	for long := 1; long <= impl.MaxThing; long++ {
		for bit := range 8 * (4*((long+3)/4) - long) {
			l := blocksIn(countingText(long))
			last := l[len(l)-1]
			last.Pieces[len(last.Pieces)-1] |= 1 << bit
			if text, ok := impl.TextOf(last.Pieces, last.Long); len(text) != last.Long || !ok {
				t.Fatalf("%v %q %v", last, text, ok)
			}
			refuseBlocks(t, l)
		}
	}
}

// A list is refused for a fault of any of its blocks.
func TestGlueThingRefusesInvalidBlocks(t *testing.T) {
	for _, long := range []int{1, 3, 4, 5, 31, 32, 33, 64, 65, 96} {
		s := countingText(long)
		for at := range blocksIn(s) {
			for _, other := range append([]int{0, 1, 33, 95, 96}, badLongs...) {
				l := blocksIn(s)
				if l[at].Long != other {
					l[at].Long = other
					refuseBlocks(t, l)
				}
			}
			for _, piece := range badPieces {
				for k := range blocksIn(s)[at].Pieces {
					l := blocksIn(s)
					l[at].Pieces[k] = piece
					refuseBlocks(t, l)
				}
			}
			l := blocksIn(s)
			l[at].Pieces = nil
			refuseBlocks(t, l)
			l = blocksIn(s)
			l[at].Pieces = append(l[at].Pieces, 0)
			refuseBlocks(t, l)
		}
	}
	refuseBlocks(t, fullBlocks(24, 24, 24))
	refuseBlocks(t, fullBlocks(9, 8, 8))
}

// Promise 19: neither the pieces nor those behind the length of their list are changed, and the latter do not count.
func TestPiecesAreLeftAlone(t *testing.T) {
	for _, l := range [][]int{nil, {0}, {1, 2}, {-1}, {1 << 32}, {5, -1}, make([]int, 8), make([]int, 24), make([]int, 25)} {
		for _, long := range append([]int{0, 1, 3, 4, 5, 8, 9, 32, 96, 4 * len(l), 4*len(l) - 1}, badLongs...) {
			pieces, whole := withTail(l)
			before := slices.Clone(whole)
			text, ok := impl.TextOf(pieces, long)
			wantText, wantOk := impl.TextOf(slices.Clip(slices.Clone(l)), long)
			if text != wantText || ok != wantOk || !slices.Equal(whole, before) {
				t.Error(l, long, text, ok, whole)
			}
		}
	}
}

// blocksWithTails puts elements behind the length of the list and of each list of pieces.
func blocksWithTails(l []impl.Block) ([]impl.Block, []impl.Block) {
	whole := append(cloneBlocks(l), impl.Block{Long: 4, Pieces: []int{1}}, impl.Block{Long: -1}, impl.Block{})
	for k := range l {
		whole[k].Pieces, _ = withTail(l[k].Pieces)
	}
	return whole[:len(l)], whole
}

// wholeBlocks copies the blocks with all that lies within the capacity of their lists of pieces.
func wholeBlocks(l []impl.Block) []impl.Block {
	l = slices.Clone(l)
	for k := range l {
		l[k].Pieces = slices.Clone(l[k].Pieces[:cap(l[k].Pieces)])
	}
	return l
}

func TestBlocksAreLeftAlone(t *testing.T) {
	check := func(l []impl.Block) {
		blocks, whole := blocksWithTails(l)
		before := wholeBlocks(whole)
		lengths := cloneBlocks(whole)
		s, ok := impl.GlueThing(blocks)
		wantS, wantOk := impl.GlueThing(slices.Clip(cloneBlocks(l)))
		if s != wantS || ok != wantOk {
			t.Fatalf("%v %q %v", l, s, ok)
		}
		if !equalBlocks(wholeBlocks(whole), before) || !equalBlocks(whole, lengths) {
			t.Fatal("changed", l, whole)
		}
	}
	eachThing(func(s string) {
		check(blocksIn(s))
	})
	for _, l := range [][]impl.Block{
		{{}}, {{}, {}}, {{Long: -1}}, {{Long: 1, Pieces: []int{1}}}, {{Long: 4, Pieces: []int{-1}}}, {{Long: 4, Pieces: []int{1 << 32}}},
		fullBlocks(1, 1), fullBlocks(8, 1), fullBlocks(4, 5), fullBlocks(24), fullBlocks(25), fullBlocks(8, 8, 8, 8), fullBlocks(24, 24, 24),
	} {
		check(l)
	}
}

// Strings cannot change; their bytes are compared with a copy that the program never had.
func TestThingsAreLeftAlone(t *testing.T) {
	eachThing(func(s string) {
		before := []byte(s)
		impl.PiecesOf(s)
		impl.CutThing(s)
		impl.PieceAt(s, 0)
		if !bytes.Equal([]byte(s), before) {
			t.Fatalf("%q %q", before, s)
		}
	})
}

// One list is overwritten up to its capacity, which must show in no other list of the result and in no later result.
func TestBlocksShareNoMemory(t *testing.T) {
	eachThing(func(s string) {
		want := blocksIn(s)
		for at := range want {
			l, _ := impl.CutThing(s)
			overwrite(l[at].Pieces)
			for k, block := range l {
				if k != at && !slices.Equal(block.Pieces, want[k].Pieces) {
					t.Fatalf("shared %q %d %v", s, at, l)
				}
			}
			clear(l[:cap(l)])
		}
		if l, ok := impl.CutThing(s); !ok || !equalBlocks(l, want) {
			t.Fatalf("kept %q %v %v", s, l, ok)
		}
	})
}

func overwrite(l []int) {
	room := l[:cap(l)]
	for k := range room {
		room[k] = -1
	}
}

func TestPiecesOfReturnsNewMemory(t *testing.T) {
	eachThing(func(s string) {
		first, _ := impl.PiecesOf(s)
		second, _ := impl.PiecesOf(s)
		overwrite(first)
		third, ok := impl.PiecesOf(s)
		if !slices.Equal(second, piecesIn(s)) || !ok || !slices.Equal(third, piecesIn(s)) {
			t.Fatalf("shared %q %v %v", s, second, third)
		}
	})
}
