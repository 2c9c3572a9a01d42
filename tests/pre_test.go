package tests

import (
	"math"
	"slices"
	"testing"

	"loop.example/g00647/impl"
)

const maxSources = 6

var (
	// badSources lie just outside 1..6 and at the ends of int. 7 and 8 are numbers of pieces in the other chapters.
	badSources = []int{math.MinInt, math.MinInt + 1, -6, -1, 0, 7, 8, 9, 16, 17, 1000, math.MaxInt - 1, math.MaxInt}
	badExtras  = []int{math.MinInt, math.MinInt + 1, -2, -1, impl.Extra, impl.Extra + 1, 5, 6, math.MaxInt - 1, math.MaxInt}
)

func extraIn(pieces int, k int) []int {
	var parts []int
	for at := range pieces {
		if k == 0 || at%2 == 1 {
			parts = append(parts, at)
		}
	}
	return parts
}

func wholeIn(block []int) []int {
	whole := slices.Clone(block)
	for k := range 2 {
		sum := 0
		for _, at := range extraIn(len(block), k) {
			sum ^= block[at]
		}
		whole = append(whole, sum)
	}
	return whole
}

// timesIn counts how often each source piece occurs in a symbol.
func timesIn(pieces int, no int) []int {
	times := make([]int, pieces)
	for _, at := range partsIn(no, pieces+2) {
		if at < pieces {
			times[at]++
			continue
		}
		for _, source := range extraIn(pieces, at-pieces) {
			times[source]++
		}
	}
	return times
}

func sourceRowIn(pieces int, no int) int {
	row := 0
	for k, times := range timesIn(pieces, no) {
		if times%2 == 1 {
			row += 1 << k
		}
	}
	return row
}

func sourceRowsIn(pieces int, nos []int) []int {
	var rows []int
	for _, no := range nos {
		rows = append(rows, sourceRowIn(pieces, no))
	}
	return rows
}

// hasFullRank tells it from the number of rows in the span.
func hasFullRank(pieces int, nos []int) bool {
	return len(spanOfRows(sourceRowsIn(pieces, nos))) == 1<<pieces
}

// raptorsIn is the list of the symbols of a source block with these numbers.
func raptorsIn(block []int, nos []int) []impl.Letter {
	return lettersIn(wholeIn(block), nos)
}

// solveIn tries all sets of symbols for each piece.
func solveIn(pieces int, l []impl.Letter) ([]int, bool) {
	least := leastSets(pieces, sourceRowsIn(pieces, nosOf(l)))
	var block []int
	for k := range pieces {
		if least[1<<k] < 0 {
			return nil, false
		}
		sum := 0
		for _, at := range indexesOf(least[1<<k]) {
			sum ^= l[at].Sum
		}
		block = append(block, sum)
	}
	return block, true
}

func smallestIn(pieces int, nos []int) (int, bool) {
	for n := 0; n <= len(nos); n++ {
		if hasFullRank(pieces, nos[:n]) {
			return n, true
		}
	}
	return 0, false
}

// eachSourceNos gives the lists of eachNos to the numbers of pieces of this chapter.
func eachSourceNos(most int, f func(pieces int, nos []int)) {
	eachNos(most, func(pieces int, nos []int) {
		if pieces <= maxSources {
			f(pieces, nos)
		}
	})
}

// eachSet gives every set of the numbers 0 to 11.
func eachSet(f func(pieces int, nos []int)) {
	for pieces := 1; pieces <= maxSources; pieces++ {
		for set := range 1 << 12 {
			f(pieces, indexesOf(set))
		}
	}
}

// narrowNos is a list of count numbers whose rows all have an even number of common bits with the row with: their rank is too small.
func narrowNos(pieces int, with int, count int) []int {
	var nos []int
	for no := 0; no <= lastNo && len(nos) < count; no++ {
		if weightIn(sourceRowIn(pieces, no)&with)%2 == 0 {
			nos = append(nos, no)
		}
	}
	return nos
}

// wideNo is the least number whose row has an odd number of common bits with the row with.
func wideNo(pieces int, with int) int {
	no := 0
	for weightIn(sourceRowIn(pieces, no)&with)%2 == 0 {
		no++
	}
	return no
}

func TestExtra(t *testing.T) {
	if impl.Extra != 2 {
		t.Fatal(impl.Extra)
	}
}

func TestExtraFor(t *testing.T) {
	for _, c := range []struct {
		pieces, k int
		parts     []int
	}{
		{1, 0, []int{0}}, {2, 0, []int{0, 1}}, {3, 0, []int{0, 1, 2}}, {4, 0, []int{0, 1, 2, 3}}, {5, 0, []int{0, 1, 2, 3, 4}}, {6, 0, []int{0, 1, 2, 3, 4, 5}},
		{1, 1, nil}, {2, 1, []int{1}}, {3, 1, []int{1}}, {4, 1, []int{1, 3}}, {5, 1, []int{1, 3}}, {6, 1, []int{1, 3, 5}},
	} {
		if parts, ok := impl.ExtraFor(c.pieces, c.k); !ok || !slices.Equal(parts, c.parts) {
			t.Error(c, parts, ok)
		}
	}
}

func TestWithExtra(t *testing.T) {
	for pieces := 1; pieces <= maxSources; pieces++ {
		for _, block := range someBlocks(pieces) {
			if whole, ok := impl.WithExtra(block); !ok || !slices.Equal(whole, wholeIn(block)) {
				t.Fatal(block, whole, ok)
			}
		}
	}
}

func TestKnownIntermediateBlocks(t *testing.T) {
	for _, c := range [][2][]int{
		{{10, 20, 30}, {10, 20, 30, 0, 20}},
		{{0}, {0, 0, 0}},
		{{7}, {7, 7, 0}},
		{{topPiece}, {topPiece, topPiece, 0}},
		{{1, 2}, {1, 2, 3, 2}},
		{{topPiece, topPiece}, {topPiece, topPiece, 0, topPiece}},
		{{topPiece, 0}, {topPiece, 0, topPiece, 0}},
		{{0, topPiece}, {0, topPiece, topPiece, topPiece}},
		{{1, 2, 4, 8}, {1, 2, 4, 8, 15, 10}},
		{{1, 2, 4, 8, 16}, {1, 2, 4, 8, 16, 31, 10}},
		{{1, 2, 4, 8, 16, 32}, {1, 2, 4, 8, 16, 32, 63, 42}},
		{{0, 0, 0, 0, 0, 0}, {0, 0, 0, 0, 0, 0, 0, 0}},
		{{topPiece, topPiece, topPiece, topPiece, topPiece, topPiece}, {topPiece, topPiece, topPiece, topPiece, topPiece, topPiece, 0, topPiece}},
		{{0, 0, 0, 0, 0, topPiece}, {0, 0, 0, 0, 0, topPiece, topPiece, topPiece}},
		{{1 << 31, 1 << 31, 1 << 31}, {1 << 31, 1 << 31, 1 << 31, 1 << 31, 1 << 31}},
	} {
		if whole, ok := impl.WithExtra(c[0]); !ok || !slices.Equal(whole, c[1]) {
			t.Error(c, whole, ok)
		}
		if is, ok := impl.IsWhole(c[1]); !is || !ok {
			t.Error(c, is, ok)
		}
	}
}

// A change of a single piece, of one bit or of several, makes a source piece and its parity pieces disagree.
func TestIsWhole(t *testing.T) {
	for pieces := 1; pieces <= maxSources; pieces++ {
		for _, block := range someBlocks(pieces) {
			whole, _ := impl.WithExtra(block)
			if is, ok := impl.IsWhole(whole); !is || !ok {
				t.Fatal(whole, is, ok)
			}
			for at := range whole {
				for _, change := range []int{1, 2, 1 << 16, 1 << 31, 70000, topPiece} {
					other := slices.Clone(whole)
					other[at] ^= change
					if is, ok := impl.IsWhole(other); is || !ok {
						t.Fatal(other, is, ok)
					}
				}
			}
		}
	}
}

// Every block of a few small pieces, most of which are no intermediate blocks.
func TestIsWholeOfSmallPieces(t *testing.T) {
	for count := 3; count <= impl.MaxBlock; count++ {
		whole := 0
		for bits := range 1 << count {
			block := make([]int, count)
			for _, k := range indexesOf(bits) {
				block[k] = topPiece
			}
			is, ok := impl.IsWhole(block)
			if want := slices.Equal(wholeIn(block[:count-2]), block); is != want || !ok {
				t.Fatal(block, is, ok)
			}
			whole += asNumber(is)
		}
		if whole != 1<<(count-2) {
			t.Error(count, whole)
		}
	}
}

func TestRowFor(t *testing.T) {
	canceled, empty := 0, 0
	for pieces := 1; pieces <= maxSources; pieces++ {
		for no := 0; no <= lastNo; no++ {
			row, ok := impl.RowFor(pieces, no)
			if !ok || row != sourceRowIn(pieces, no) {
				t.Fatal(pieces, no, row, ok)
			}
			if slices.Max(timesIn(pieces, no)) > 1 {
				canceled++
			}
			if row == 0 {
				empty++
			}
		}
	}
	if canceled == 0 || empty == 0 {
		t.Error(canceled, empty)
	}
}

// Worked out apart from the program. In the comments, p and q are the parity pieces.
func TestKnownRows(t *testing.T) {
	for _, c := range []struct{ pieces, no, row int }{
		{3, 3, 2},    // 1
		{3, 17, 7},   // p
		{3, 10, 4},   // 2
		{3, 2, 6},    // 0 and p: 0 cancels
		{3, 0, 6},    // 2 and q
		{3, 7, 5},    // p and q: 1 cancels
		{3, 4, 3},    // 1, 2, p and q: 2 cancels, 1 remains
		{3, 5, 0},    // 0, 2, p and q
		{3, 18, 0},   // 0, 1, 2 and p
		{3, 999, 1},  // 1, 2 and p
		{1, 0, 0},    // 0 and p
		{1, 1, 1},    // 0 and q, which covers none
		{1, 3, 1},    // p
		{1, 10, 1},   // 0
		{1, 17, 0},   // q
		{1, 4, 0},    // all
		{2, 16, 2},   // q
		{2, 3, 3},    // p
		{2, 12, 0},   // 0, p and q
		{2, 999, 0},  // 0, p and q
		{4, 6, 0},    // 1, 3 and q
		{4, 2, 5},    // p and q
		{5, 433, 0},  // the only one of five pieces
		{5, 0, 9},    // 0 and 3
		{5, 999, 11}, // 0, 1 and 3
		{6, 16, 42},  // q
		{6, 3, 63},   // p
		{6, 11, 61},  // 3, 5, p and q: 1 cancels
		{6, 998, 58}, // 1, 3, 4 and 5
		{6, 999, 20}, // 0, p and q
	} {
		if row, ok := impl.RowFor(c.pieces, c.no); row != c.row || !ok {
			t.Error(c, row, ok)
		}
	}
}

// The sum of the source pieces of the row is the symbol.
func TestRaptorFor(t *testing.T) {
	for pieces := 1; pieces <= maxSources; pieces++ {
		for _, block := range someBlocks(pieces) {
			for no := 0; no <= lastNo; no++ {
				row, _ := impl.RowFor(pieces, no)
				sum := 0
				for _, k := range indexesOf(row) {
					sum ^= block[k]
				}
				x, ok := impl.RaptorFor(block, no)
				if !ok || x != (impl.Letter{No: no, Sum: sum}) || x != raptorsIn(block, []int{no})[0] {
					t.Fatal(block, no, x, sum, ok)
				}
			}
		}
	}
}

func TestKnownRaptors(t *testing.T) {
	for _, c := range []struct {
		block   []int
		no, sum int
	}{
		{[]int{10, 20, 30}, 3, 20},
		{[]int{10, 20, 30}, 16, 10},
		{[]int{10, 20, 30}, 10, 30},
		{[]int{10, 20, 30}, 17, 0},
		{[]int{10, 20, 30}, 4, 30},
		{[]int{1, 2, 4}, 17, 7},
		{[]int{1, 2, 4}, 2, 6},
		{[]int{1, 2, 4}, 5, 0},
		{[]int{1, 2, 4}, 999, 1},
		{[]int{topPiece}, 0, 0},
		{[]int{topPiece}, 1, topPiece},
		{[]int{0}, 1, 0},
		{[]int{0, topPiece}, 16, topPiece},
		{[]int{topPiece, topPiece}, 3, 0},
		{[]int{1, 2, 4, 8, 16, 32}, 16, 42},
		{[]int{1, 2, 4, 8, 16, 32}, 11, 61},
	} {
		if x, ok := impl.RaptorFor(c.block, c.no); !ok || x != (impl.Letter{No: c.no, Sum: c.sum}) {
			t.Error(c, x, ok)
		}
	}
}

// Promise 6, with symbols that the program itself makes: every set of the first numbers, with as many symbols as pieces and with more.
func TestSymbolsOfFullRankDetermineTheBlock(t *testing.T) {
	exact, more, less := map[int]bool{}, map[int]bool{}, map[int]bool{}
	eachSet(func(pieces int, nos []int) {
		full := hasFullRank(pieces, nos)
		switch {
		case !full:
			less[pieces] = true
		case len(nos) == pieces:
			exact[pieces] = true
		default:
			more[pieces] = true
		}
		for _, block := range [][]int{make([]int, pieces), unitRows(pieces), mixedBlock(pieces, 21)} {
			var l []impl.Letter
			for _, no := range nos {
				x, _ := impl.RaptorFor(block, no)
				l = append(l, x)
			}
			got, ok := impl.SolveAll(pieces, l)
			if ok != full || full && !slices.Equal(got, block) || !full && len(got) != 0 {
				t.Fatal(block, l, got, ok)
			}
		}
	})
	if len(exact) != maxSources || len(more) != maxSources || len(less) != maxSources {
		t.Error(exact, more, less)
	}
}

// Promise 6 up to 20 symbols, in any order.
func TestSolveAllReturnsTheBlock(t *testing.T) {
	sizes := map[int]bool{}
	check := func(pieces int, nos []int) {
		full := hasFullRank(pieces, nos)
		for _, block := range someBlocks(pieces) {
			l := raptorsIn(block, nos)
			got, ok := impl.SolveAll(pieces, l)
			if ok != full || full && !slices.Equal(got, block) || !full && len(got) != 0 {
				t.Fatal(block, l, got, ok)
			}
		}
		if full {
			sizes[len(nos)] = true
		}
	}
	eachSourceNos(maxListed, check)
	if len(sizes) != maxListed {
		t.Error(sizes)
	}
	// Redundant symbols do not help, whatever their number is.
	for pieces := 1; pieces <= maxSources; pieces++ {
		for with := 1; with < 1<<pieces; with++ {
			for count := 1; count <= maxListed; count++ {
				check(pieces, narrowNos(pieces, with, count))
			}
		}
	}
}

// The Sums belong to no block, so that only the symbols that MakeBy names give these pieces.
func TestSolveAllTakesTheSymbolsOfMakeBy(t *testing.T) {
	check := func(pieces int, nos []int) {
		l := raptorsIn(mixedBlock(pieces, 22), nos)
		for k, sum := range mixedBlock(len(l), uint64(len(l)+2)) {
			l[k].Sum ^= sum
		}
		want, wantOk := solveIn(pieces, l)
		if block, ok := impl.SolveAll(pieces, l); ok != wantOk || !slices.Equal(block, want) {
			t.Fatal(pieces, l, block, ok)
		}
	}
	eachSourceNos(11, check)
	for pieces := 1; pieces <= maxSources; pieces++ {
		check(pieces, numbersFrom(0, maxListed))
		check(pieces, mixedNos(maxListed, uint64(pieces)))
	}
}

func TestKnownSolutions(t *testing.T) {
	for _, c := range []struct {
		pieces int
		pairs  [][2]int
		block  []int
		ok     bool
	}{
		{3, [][2]int{{3, 20}}, nil, false},
		{1, nil, nil, false},
		{3, nil, nil, false},
		{6, nil, nil, false},
		// The rows 2, 1 and 4.
		{3, [][2]int{{3, 20}, {16, 10}, {10, 30}}, []int{10, 20, 30}, true},
		{3, [][2]int{{10, 30}, {16, 10}, {3, 20}}, []int{10, 20, 30}, true},
		// The rows 6, 5 and 7.
		{3, [][2]int{{0, 10}, {1, 20}, {17, 0}}, []int{10, 20, 30}, true},
		// The rows 6, 6, 2, then 4, then 1.
		{3, [][2]int{{0, 10}, {2, 10}, {3, 20}}, nil, false},
		{3, [][2]int{{0, 10}, {2, 10}, {3, 20}, {10, 30}}, nil, false},
		{3, [][2]int{{0, 10}, {2, 10}, {3, 20}, {10, 30}, {16, 10}}, []int{10, 20, 30}, true},
		// The rows 6, 5 and 3: pairs of pieces.
		{3, [][2]int{{0, 10}, {1, 20}, {4, 30}}, nil, false},
		// All pieces cancel.
		{3, [][2]int{{5, 0}, {18, 0}, {24, 0}, {25, 0}}, nil, false},
		{1, [][2]int{{0, 0}}, nil, false},
		{1, [][2]int{{0, 0}, {4, 0}, {5, 0}, {17, 0}}, nil, false},
		{1, [][2]int{{0, 0}, {3, 7}}, []int{7}, true},
		{1, [][2]int{{1, topPiece}}, []int{topPiece}, true},
		{1, [][2]int{{1, 0}}, []int{0}, true},
		{2, [][2]int{{0, topPiece}, {10, topPiece}}, []int{topPiece, topPiece}, true},
		// No two symbols agree: those of the least list are taken.
		{1, [][2]int{{1, 5}, {2, 9}}, []int{5}, true},
		{1, [][2]int{{2, 9}, {1, 5}}, []int{9}, true},
		{1, [][2]int{{0, 3}, {2, 9}, {1, 5}}, []int{9}, true},
		{2, [][2]int{{0, 1}, {10, 4}, {17, 8}}, []int{1, 4}, true},
		{2, [][2]int{{3, 1}, {10, 4}, {17, 8}}, []int{5, 4}, true},
		{2, [][2]int{{17, 8}, {3, 1}, {10, 4}}, []int{8, 9}, true},
	} {
		if block, ok := impl.SolveAll(c.pieces, lettersOf(c.pairs)); ok != c.ok || !slices.Equal(block, c.block) {
			t.Error(c, block, ok)
		}
	}
}

func TestSmallestOf(t *testing.T) {
	first, all, none := 0, 0, 0
	check := func(pieces int, nos []int) {
		want, wantOk := smallestIn(pieces, nos)
		if n, ok := impl.SmallestOf(pieces, nos); n != want || ok != wantOk {
			t.Fatal(pieces, nos, n, ok)
		}
		switch {
		case !wantOk:
			none++
		case want == len(nos):
			all++
		default:
			first++
		}
	}
	eachSourceNos(maxListed, check)
	eachSet(check)
	if first == 0 || all == 0 || none == 0 {
		t.Error(first, all, none)
	}
}

// The numbers whose rank is too small, and with one more at any place: all numbers up to that one are needed, or still more.
func TestSmallestOfNarrowNumbers(t *testing.T) {
	needed := map[int]bool{}
	for pieces := 1; pieces <= maxSources; pieces++ {
		for with := 1; with < 1<<pieces; with++ {
			if n, ok := impl.SmallestOf(pieces, narrowNos(pieces, with, maxListed)); n != 0 || ok {
				t.Fatal(pieces, with, n, ok)
			}
			for count := range maxListed {
				nos := append(narrowNos(pieces, with, count), wideNo(pieces, with))
				want, wantOk := smallestIn(pieces, nos)
				if n, ok := impl.SmallestOf(pieces, nos); n != want || ok != wantOk || ok && n != len(nos) {
					t.Fatal(pieces, nos, n, ok)
				}
				needed[want] = true
			}
		}
	}
	if len(needed) != maxListed+1 {
		t.Error(needed)
	}
}

func TestKnownSmallest(t *testing.T) {
	backwards := numbersFrom(0, maxListed)
	slices.Reverse(backwards)
	for _, c := range []struct {
		pieces int
		nos    []int
		n      int
		ok     bool
	}{
		{1, []int{3}, 1, true},
		{1, []int{0}, 0, false},
		{1, []int{0, 3}, 2, true},
		{1, []int{3, 0}, 1, true},
		{1, []int{lastNo}, 0, false},
		{3, []int{3, 16, 10}, 3, true},
		{3, []int{3, 16, 10, 0, 1}, 3, true},
		{3, []int{0, 2, 3, 10, 16}, 5, true},
		{3, []int{0, 2, 3, 10, 16, 17}, 5, true},
		{3, []int{0, 2, 3, 10}, 0, false},
		{3, []int{3, 16}, 0, false},
		{1, numbersFrom(0, maxListed), 2, true},
		{2, numbersFrom(0, maxListed), 2, true},
		{3, numbersFrom(0, maxListed), 4, true},
		{4, numbersFrom(0, maxListed), 4, true},
		{5, numbersFrom(0, maxListed), 5, true},
		{6, numbersFrom(0, maxListed), 7, true},
		{1, numbersFrom(980, maxListed), 1, true},
		{2, numbersFrom(980, maxListed), 5, true},
		{5, numbersFrom(980, maxListed), 6, true},
		{1, backwards, 4, true},
		{6, backwards, 7, true},
		// All 20 are needed, or not even all 20 suffice.
		{1, []int{0, 4, 5, 6, 7, 11, 12, 13, 15, 17, 18, 19, 22, 23, 24, 25, 26, 28, 31, 1}, 20, true},
		{1, []int{0, 4, 5, 6, 7, 11, 12, 13, 15, 17, 18, 19, 22, 23, 24, 25, 26, 28, 31, 32}, 0, false},
		{6, []int{0, 1, 8, 10, 12, 15, 16, 17, 18, 20, 23, 24, 26, 27, 28, 29, 30, 31, 32, 2}, 20, true},
	} {
		if n, ok := impl.SmallestOf(c.pieces, c.nos); n != c.n || ok != c.ok {
			t.Error(c, n, ok)
		}
	}
	for pieces := 1; pieces <= maxSources; pieces++ {
		for _, empty := range [][]int{nil, {}} {
			if n, ok := impl.SmallestOf(pieces, empty); n != 0 || ok {
				t.Error(pieces, n, ok)
			}
		}
	}
}

func refuseExtra(t *testing.T, pieces int, k int) {
	t.Helper()
	if l, ok := impl.ExtraFor(pieces, k); len(l) != 0 || ok {
		t.Error("ExtraFor", pieces, k, l, ok)
	}
}

func refuseSource(t *testing.T, block []int) {
	t.Helper()
	if whole, ok := impl.WithExtra(block); len(whole) != 0 || ok {
		t.Error("WithExtra", block, whole, ok)
	}
	for _, no := range append(numbersFrom(-1, 40), lastNo, lastNo+1) {
		refuseRaptor(t, block, no)
	}
}

func refuseRaptor(t *testing.T, block []int, no int) {
	t.Helper()
	if x, ok := impl.RaptorFor(block, no); x != (impl.Letter{}) || ok {
		t.Error("RaptorFor", block, no, x, ok)
	}
}

func refuseRow(t *testing.T, pieces int, no int) {
	t.Helper()
	if row, ok := impl.RowFor(pieces, no); row != 0 || ok {
		t.Error("RowFor", pieces, no, row, ok)
	}
}

func refuseWhole(t *testing.T, block []int) {
	t.Helper()
	if is, ok := impl.IsWhole(block); is || ok {
		t.Error("IsWhole", block, is, ok)
	}
}

func refuseSolving(t *testing.T, pieces int, l []impl.Letter) {
	t.Helper()
	if block, ok := impl.SolveAll(pieces, l); len(block) != 0 || ok {
		t.Error("SolveAll", pieces, l, block, ok)
	}
}

func refuseSmallest(t *testing.T, pieces int, nos []int) {
	t.Helper()
	if n, ok := impl.SmallestOf(pieces, nos); n != 0 || ok {
		t.Error("SmallestOf", pieces, nos, n, ok)
	}
}

func TestPrecodeRefusesInvalidNumbersOfPieces(t *testing.T) {
	for _, pieces := range badSources {
		for _, k := range append([]int{0, 1}, badExtras...) {
			refuseExtra(t, pieces, k)
		}
		for _, no := range append(numbersFrom(0, 20), badNos...) {
			refuseRow(t, pieces, no)
		}
		for _, nos := range [][]int{nil, {}, {0}, {3}, numbersFrom(0, maxListed)} {
			refuseSolving(t, pieces, raptorsIn([]int{5}, nos))
			refuseSmallest(t, pieces, nos)
		}
	}
	refuseSource(t, nil)
	for _, count := range []int{0, 7, 8, 9, 10, 16, 17, 1 << 16} {
		refuseSource(t, make([]int, count))
	}
	refuseWhole(t, nil)
	for _, count := range []int{0, 1, 2, 9, 10, 11, 16, 1 << 16} {
		refuseWhole(t, make([]int, count))
	}
	// Each of them would be an intermediate block, but for the number of its pieces.
	refuseWhole(t, wholeIn(nil))
	refuseWhole(t, wholeIn(mixedBlock(7, 23)))
	refuseWhole(t, wholeIn(mixedBlock(8, 23)))
}

func TestExtraForRefusesInvalidParityPieces(t *testing.T) {
	for pieces := 1; pieces <= maxSources; pieces++ {
		for _, k := range badExtras {
			refuseExtra(t, pieces, k)
		}
	}
}

func TestPrecodeRefusesInvalidPieces(t *testing.T) {
	for _, piece := range badPieces {
		for pieces := 1; pieces <= maxSources; pieces++ {
			for at := range pieces {
				block := mixedBlock(pieces, 24)
				block[at] = piece
				refuseSource(t, block)
				// The parity pieces agree, and they may be invalid too.
				refuseWhole(t, wholeIn(block))
			}
			for at := range pieces + 2 {
				whole := wholeIn(mixedBlock(pieces, 25))
				whole[at] = piece
				refuseWhole(t, whole)
			}
		}
	}
	// All parity pieces are valid, but two source pieces are not.
	for _, block := range [][]int{{1, -1, 2, -1}, {1, 1 << 32, 2, 1 << 32}} {
		refuseSource(t, block)
		refuseWhole(t, wholeIn(block))
	}
}

func TestPrecodeRefusesInvalidNumbers(t *testing.T) {
	for _, no := range badNos {
		for pieces := 1; pieces <= maxSources; pieces++ {
			refuseRow(t, pieces, no)
			for _, block := range someBlocks(pieces) {
				refuseRaptor(t, block, no)
			}
		}
		eachSourcePlace(func(block []int, l []impl.Letter, at int) {
			l[at].No = no
			refuseSolving(t, len(block), l)
			refuseSmallest(t, len(block), nosOf(l))
		})
	}
}

// eachSourcePlace gives lists of symbols that determine their block without any one of them, except for the shortest ones, and each of their indexes.
func eachSourcePlace(f func(block []int, l []impl.Letter, at int)) {
	for pieces := 1; pieces <= maxSources; pieces++ {
		block := mixedBlock(pieces, 26)
		for _, count := range []int{1, 2, 12, maxListed} {
			l := raptorsIn(block, numbersFrom(100, count))
			for at := range l {
				f(block, slices.Clone(l), at)
			}
		}
	}
}

func TestSolveAllRefusesInvalidSums(t *testing.T) {
	for _, sum := range badPieces {
		eachSourcePlace(func(block []int, l []impl.Letter, at int) {
			l[at].Sum = sum
			refuseSolving(t, len(block), l)
		})
	}
	// The piece would be valid.
	refuseSolving(t, 1, []impl.Letter{{No: 1, Sum: 5}, {No: 0, Sum: -1}})
	refuseSolving(t, 1, []impl.Letter{{No: 1, Sum: 5}, {No: 2, Sum: 1 << 32}})
}

// Two symbols with the same number are refused even if they are equal, and even behind those that suffice.
func TestPrecodeRefusesEqualNumbers(t *testing.T) {
	eachSourcePlace(func(block []int, l []impl.Letter, at int) {
		for other := range at {
			same := slices.Clone(l)
			same[at] = l[other]
			refuseSolving(t, len(block), same)
			refuseSmallest(t, len(block), nosOf(same))
			same[at].Sum ^= 1
			refuseSolving(t, len(block), same)
		}
	})
	for _, no := range []int{1, 3, 10} {
		refuseSolving(t, 1, []impl.Letter{{No: no, Sum: 5}, {No: no, Sum: 5}})
		refuseSmallest(t, 1, []int{no, no})
	}
}

// 21 to 40 symbols are a valid list in chapter 5, but not here.
func TestPrecodeRefusesLongLists(t *testing.T) {
	for pieces := 1; pieces <= maxSources; pieces++ {
		block := mixedBlock(pieces, 27)
		for count := maxListed; count <= impl.MaxLetters+2; count++ {
			nos := numbersFrom(0, count)
			l := raptorsIn(block, nos)
			if count > maxListed {
				refuseSolving(t, pieces, l)
				refuseSmallest(t, pieces, nos)
				continue
			}
			if got, ok := impl.SolveAll(pieces, l); !ok || !slices.Equal(got, block) {
				t.Error(pieces, count, got, ok)
			}
			if _, ok := impl.SmallestOf(pieces, nos); !ok {
				t.Error(pieces, count)
			}
		}
		for _, count := range []int{1000, 1001, 1 << 16} {
			refuseSolving(t, pieces, make([]impl.Letter, count))
			refuseSmallest(t, pieces, make([]int, count))
			refuseSmallest(t, pieces, numbersFrom(0, count))
		}
	}
}

// callSource calls every function of the chapter that takes a block or numbers and gathers what they return.
func callSource(pieces int, list []int) [][]int {
	whole, ok := impl.WithExtra(list)
	all := [][]int{whole, {asNumber(ok)}}
	is, ok := impl.IsWhole(list)
	all = append(all, []int{asNumber(is), asNumber(ok)})
	for _, no := range []int{-1, 0, 3, 4, 6, 17, lastNo, lastNo + 1} {
		x, ok := impl.RaptorFor(list, no)
		all = append(all, []int{x.No, x.Sum, asNumber(ok)})
	}
	n, ok := impl.SmallestOf(pieces, list)
	return append(all, []int{n, asNumber(ok)})
}

// Promise 19: blocks and numbers are neither changed nor read behind the length of their list.
func TestSourceListsAreLeftAlone(t *testing.T) {
	check := func(pieces int, l []int) {
		list, whole := withTail(l)
		before := slices.Clone(whole)
		got := callSource(pieces, list)
		if !slices.Equal(whole, before) {
			t.Fatal("changed", pieces, l, whole)
		}
		if !slices.EqualFunc(got, callSource(pieces, slices.Clip(slices.Clone(l))), slices.Equal) {
			t.Fatal("read behind the length", pieces, l, got)
		}
	}
	eachSourceNos(maxListed, check)
	for pieces := 1; pieces <= maxSources; pieces++ {
		for _, block := range someBlocks(pieces) {
			check(pieces, block)
			check(pieces, wholeIn(block))
		}
	}
	for _, pieces := range append([]int{1, 2, 3, 6}, badSources...) {
		for _, l := range [][]int{nil, {0}, {3}, {0, 0}, {7, 7, 0}, {3, 0, 3}, {-1}, {1, 1 << 32}, {lastNo + 1}, {math.MinInt, math.MaxInt}, make([]int, 8), make([]int, 9), numbersFrom(0, maxListed+1)} {
			check(pieces, l)
		}
	}
}

// The source pieces and the parity pieces lie in one list: making room for parity pieces must not overwrite those behind the source pieces.
func TestPiecesBehindTheSourceAreLeftAlone(t *testing.T) {
	for pieces := 1; pieces <= maxSources; pieces++ {
		whole := numbersFrom(1, pieces+2)
		before := slices.Clone(whole)
		got, _ := impl.WithExtra(whole[:pieces])
		impl.RaptorFor(whole[:pieces], 3)
		impl.IsWhole(whole)
		if !slices.Equal(whole, before) || !slices.Equal(got, wholeIn(before[:pieces])) {
			t.Error(pieces, whole, got)
		}
	}
}

func TestSourceSymbolsAreLeftAlone(t *testing.T) {
	check := func(pieces int, l []impl.Letter) {
		letters, whole := lettersWithTail(l)
		before := slices.Clone(whole)
		got, ok := impl.SolveAll(pieces, letters)
		if !slices.Equal(whole, before) {
			t.Fatal("changed", pieces, l, whole)
		}
		if want, wantOk := impl.SolveAll(pieces, slices.Clip(slices.Clone(l))); ok != wantOk || !slices.Equal(got, want) {
			t.Fatal("read behind the length", pieces, l, got)
		}
	}
	eachSourceNos(maxListed, func(pieces int, nos []int) {
		check(pieces, raptorsIn(mixedBlock(pieces, 28), nos))
	})
	for _, pieces := range append([]int{1, 2, 3, 6}, badSources...) {
		for _, l := range [][]impl.Letter{
			nil, {{}}, {{No: -1}}, {{No: 1000}}, {{Sum: -1}}, {{Sum: 1 << 32}}, {{}, {}}, {{No: 3, Sum: 1}, {No: 3, Sum: 2}},
			{{No: math.MinInt, Sum: math.MinInt}, {No: math.MaxInt, Sum: math.MaxInt}}, make([]impl.Letter, maxListed+1),
		} {
			check(pieces, l)
		}
	}
}

// One result is overwritten up to its capacity, which must show in no argument and in no later result.
func TestPrecodeReturnsNewMemory(t *testing.T) {
	for pieces := 1; pieces <= maxSources; pieces++ {
		for k := range impl.Extra {
			first, _ := impl.ExtraFor(pieces, k)
			second, _ := impl.ExtraFor(pieces, k)
			overwrite(first)
			third, _ := impl.ExtraFor(pieces, k)
			if want := extraIn(pieces, k); !slices.Equal(second, want) || !slices.Equal(third, want) {
				t.Fatal("ExtraFor", pieces, k, second, third)
			}
		}
		// With and without room for the parity pieces behind the block.
		for _, room := range []int{0, 2, 10} {
			list := append(make([]int, 0, pieces+room), mixedBlock(pieces, 29)...)
			before := slices.Clone(list)
			first, _ := impl.WithExtra(list)
			second, _ := impl.WithExtra(list)
			overwrite(first)
			third, _ := impl.WithExtra(list)
			if want := wholeIn(before); !slices.Equal(second, want) || !slices.Equal(third, want) || !slices.Equal(list, before) {
				t.Fatal("WithExtra", before, second, third, list)
			}
		}
		l := raptorsIn(mixedBlock(pieces, 30), numbersFrom(0, maxListed))
		before := slices.Clone(l)
		first, _ := impl.SolveAll(pieces, l)
		second, _ := impl.SolveAll(pieces, l)
		overwrite(first)
		third, _ := impl.SolveAll(pieces, l)
		if want := mixedBlock(pieces, 30); !slices.Equal(second, want) || !slices.Equal(third, want) || !slices.Equal(l, before) {
			t.Fatal("SolveAll", pieces, second, third, l)
		}
	}
}
