package tests

import (
	"math"
	"slices"
	"testing"

	"loop.example/g00647/impl"
)

const (
	lastNo   = 999
	topPiece = 1<<32 - 1
)

var (
	// badCounts lie just outside 1..MaxBlock and at the ends of int. 9 to 17 are widths of rows all the same.
	badCounts = []int{math.MinInt, math.MinInt + 1, -8, -1, 0, 9, 10, 16, 17, 24, 1000, math.MaxInt}
	// badNos lie just outside 0..999 and at the ends of int, where the products would overflow.
	badNos = []int{math.MinInt, math.MinInt + 1, -1000, -2, -1, 1000, 1001, 1019, 8191, 1 << 32, math.MaxInt / 37, math.MaxInt - 1, math.MaxInt}
)

// partsIn keeps the chosen indexes in a list, in the order in which they are chosen, as the document says it.
func partsIn(no int, pieces int) []int {
	degrees := [20]int{1, 1, 1, 1, 2, 2, 2, 2, 2, 2, 2, 2, 3, 3, 3, 3, 4, 4, 4, 4}
	degree := min(degrees[(37*no+11)%20], pieces)
	var chosen []int
	for x := (53*no + 7) % 8191; len(chosen) < degree; x = (31*x + 17) % 8191 {
		for step := 0; ; step++ {
			if at := (x + step) % pieces; !slices.Contains(chosen, at) {
				chosen = append(chosen, at)
				break
			}
		}
	}
	slices.Sort(chosen)
	return chosen
}

func rowIn(no int, pieces int) int {
	row := 0
	for _, k := range partsIn(no, pieces) {
		row += 1 << k
	}
	return row
}

func rowsIn(pieces int, nos []int) []int {
	var rows []int
	for _, no := range nos {
		rows = append(rows, rowIn(no, pieces))
	}
	return rows
}

// lettersIn is the list of the symbols of a block with these numbers.
func lettersIn(block []int, nos []int) []impl.Letter {
	var l []impl.Letter
	for _, no := range nos {
		sum := 0
		for _, k := range partsIn(no, len(block)) {
			sum ^= block[k]
		}
		l = append(l, impl.Letter{No: no, Sum: sum})
	}
	return l
}

// lettersOf makes symbols of pairs of a number and a Sum.
func lettersOf(pairs [][2]int) []impl.Letter {
	var l []impl.Letter
	for _, pair := range pairs {
		l = append(l, impl.Letter{No: pair[0], Sum: pair[1]})
	}
	return l
}

func nosOf(l []impl.Letter) []int {
	var nos []int
	for _, x := range l {
		nos = append(nos, x.No)
	}
	return nos
}

// peelIn counts the unknown pieces of every symbol anew before each piece that it recovers.
func peelIn(pieces int, l []impl.Letter) ([]int, []bool) {
	block, known := make([]int, pieces), make([]bool, pieces)
	recoverOne := func() bool {
		for _, x := range l {
			unknown, sum := []int{}, x.Sum
			for _, k := range partsIn(x.No, pieces) {
				if known[k] {
					sum ^= block[k]
				} else {
					unknown = append(unknown, k)
				}
			}
			if len(unknown) == 1 {
				block[unknown[0]], known[unknown[0]] = sum, true
				return true
			}
		}
		return false
	}
	for recoverOne() {
	}
	return block, known
}

// addIn tries all sets of symbols for each piece.
func addIn(pieces int, l []impl.Letter) ([]int, bool) {
	least := leastSets(pieces, rowsIn(pieces, nosOf(l)))
	var block []int
	for k := range pieces {
		if least[1<<k] < 0 {
			return nil, false
		}
		sum := 0
		for _, at := range indexesOf(least[1<<k]) {
			sum ^= l[at].Sum
		}
		block = append(block, sum)
	}
	return block, true
}

func mixedBlock(pieces int, seed uint64) []int {
	block := mixedRows(16, 2*pieces, seed)
	for k := range pieces {
		block[k] = block[k]<<16 | block[pieces+k]
	}
	return block[:pieces:pieces]
}

// someBlocks holds blocks of pieces at both ends of the range, of one bit each, and mixed ones.
func someBlocks(pieces int) [][]int {
	zero, top, both := make([]int, pieces), make([]int, pieces), make([]int, pieces)
	for k := range pieces {
		top[k] = topPiece
		both[k] = topPiece * (k % 2)
	}
	return [][]int{zero, top, both, unitRows(pieces), mixedBlock(pieces, 1), mixedBlock(pieces, 2)}
}

// mixedNos is a list of count different numbers, out of order.
func mixedNos(count int, seed uint64) []int {
	var nos []int
	for _, no := range mixedRows(10, 200, seed) {
		if len(nos) < count && no <= lastNo && !slices.Contains(nos, no) {
			nos = append(nos, no)
		}
	}
	return nos
}

func numbersFrom(first int, count int) []int {
	nos := make([]int, count)
	for k := range nos {
		nos[k] = first + k
	}
	return nos
}

// eachNos gives lists of at most most numbers: none, one alone, the first ones, the last ones, both in descending order too, and mixed ones.
func eachNos(most int, f func(pieces int, nos []int)) {
	for pieces := 1; pieces <= impl.MaxBlock; pieces++ {
		f(pieces, nil)
		for no := range 40 {
			f(pieces, []int{no})
		}
		for count := 2; count <= most; count++ {
			for _, nos := range [][]int{numbersFrom(0, count), numbersFrom(lastNo+1-count, count)} {
				f(pieces, nos)
				nos = slices.Clone(nos)
				slices.Reverse(nos)
				f(pieces, nos)
			}
			for seed := range 12 {
				f(pieces, mixedNos(count, uint64(pieces*10000+count*100+seed)))
			}
		}
	}
}

func TestLetterLimits(t *testing.T) {
	if impl.MaxLetters != 40 {
		t.Fatal(impl.MaxLetters)
	}
}

func TestDegreeOf(t *testing.T) {
	for pieces := 1; pieces <= impl.MaxBlock; pieces++ {
		for no := 0; no <= lastNo; no++ {
			if n, ok := impl.DegreeOf(no, pieces); n != len(partsIn(no, pieces)) || !ok {
				t.Fatal(no, pieces, n, ok)
			}
		}
	}
}

// The degree of each residue, and where the number of pieces bounds it.
func TestKnownDegrees(t *testing.T) {
	for no, degree := range []int{2, 2, 2, 1, 4, 4, 3, 2, 2, 2, 1, 4, 3, 3, 2, 2, 1, 1, 4, 3} {
		for pieces := 1; pieces <= impl.MaxBlock; pieces++ {
			want := degree
			if want > pieces {
				want = pieces
			}
			for same := no; same <= lastNo; same += 20 {
				if n, ok := impl.DegreeOf(same, pieces); n != want || !ok {
					t.Fatal(same, pieces, n, ok)
				}
			}
		}
	}
}

func TestPartsOf(t *testing.T) {
	for pieces := 1; pieces <= impl.MaxBlock; pieces++ {
		for no := 0; no <= lastNo; no++ {
			parts, ok := impl.PartsOf(no, pieces)
			if degree, _ := impl.DegreeOf(no, pieces); !ok || len(parts) != degree {
				t.Fatal(no, pieces, parts, ok)
			}
			for k, at := range parts {
				if at < 0 || at >= pieces || k > 0 && at <= parts[k-1] {
					t.Fatal(no, pieces, parts)
				}
			}
			if !slices.Equal(parts, partsIn(no, pieces)) {
				t.Fatal(no, pieces, parts)
			}
		}
	}
}

// Worked out apart from the program: without a choice that is taken already, with one or several of them, with one at the last index.
func TestKnownSymbols(t *testing.T) {
	for _, c := range []struct {
		no, pieces int
		parts      []int
	}{
		{0, 1, []int{0}}, {0, 2, []int{0, 1}}, {0, 3, []int{0, 1}}, {0, 4, []int{2, 3}}, {0, 8, []int{2, 7}},
		{1, 3, []int{0, 2}}, {2, 3, []int{1, 2}}, {3, 1, []int{0}}, {3, 2, []int{0}}, {3, 3, []int{1}}, {3, 8, []int{6}},
		{4, 2, []int{0, 1}}, {4, 3, []int{0, 1, 2}}, {4, 4, []int{0, 1, 2, 3}}, {4, 5, []int{1, 2, 3, 4}}, {4, 7, []int{2, 3, 4, 5}}, {4, 8, []int{3, 4, 5, 6}},
		{5, 3, []int{0, 1, 2}}, {5, 5, []int{0, 2, 3, 4}}, {5, 7, []int{0, 1, 2, 6}}, {5, 8, []int{0, 1, 2, 7}},
		{6, 4, []int{1, 2, 3}}, {6, 5, []int{0, 1, 2}}, {6, 8, []int{3, 5, 6}}, {8, 4, []int{0, 3}},
		{10, 3, []int{0}}, {10, 8, []int{1}}, {11, 5, []int{0, 1, 2, 4}}, {11, 8, []int{3, 5, 6, 7}},
		{154, 8, []int{1, 6}}, {155, 8, []int{2, 7}}, {998, 7, []int{0, 3, 5, 6}}, {998, 8, []int{1, 3, 4, 5}},
		{999, 1, []int{0}}, {999, 7, []int{0, 1, 3}}, {999, 8, []int{0, 6, 7}},
	} {
		if parts, ok := impl.PartsOf(c.no, c.pieces); !ok || !slices.Equal(parts, c.parts) {
			t.Error(c, parts, ok)
		}
	}
}

func TestLetterFor(t *testing.T) {
	for pieces := 1; pieces <= impl.MaxBlock; pieces++ {
		for _, block := range someBlocks(pieces) {
			for no := 0; no <= lastNo; no++ {
				x, ok := impl.LetterFor(block, no)
				if !ok || x != lettersIn(block, []int{no})[0] {
					t.Fatal(block, no, x, ok)
				}
			}
		}
	}
}

func TestKnownLetters(t *testing.T) {
	for _, c := range []struct {
		block   []int
		no, sum int
	}{
		{[]int{10, 20, 30}, 0, 30}, // covers 0 and 1
		{[]int{10, 20, 30}, 1, 20}, // 0 and 2
		{[]int{10, 20, 30}, 3, 20}, // 1 alone
		{[]int{10, 20, 30}, 4, 0},  // all
		{[]int{1, 2, 4}, 4, 7},
		{[]int{1, 2, 4, 8}, 4, 15}, // all
		{[]int{0}, 4, 0},
		{[]int{topPiece}, 4, topPiece},
		{[]int{topPiece}, 0, topPiece},
		{[]int{topPiece, 0}, 0, topPiece},
		{[]int{topPiece, topPiece}, 0, 0},
		{[]int{topPiece, 1 << 31}, 0, 1<<31 - 1},
		{[]int{0, 0, topPiece}, 3, 0},
		{[]int{0, topPiece, 0}, 3, topPiece},
		{[]int{1, 2, 4, 8, 16, 32, 64, 128}, 999, 1 + 64 + 128},
	} {
		if x, ok := impl.LetterFor(c.block, c.no); !ok || x != (impl.Letter{No: c.no, Sum: c.sum}) {
			t.Error(c, x, ok)
		}
	}
}

// Each symbol of a block of one piece is that piece, and both decoders return it.
func TestBlockOfOnePiece(t *testing.T) {
	for _, piece := range []int{0, 1, 70000, 1 << 31, topPiece} {
		for no := 0; no <= lastNo; no++ {
			x, ok := impl.LetterFor([]int{piece}, no)
			if !ok || x.No != no || x.Sum != piece {
				t.Fatal(piece, no, x, ok)
			}
			l := []impl.Letter{x}
			if block, known, ok := impl.PeelOff(1, l); !ok || !slices.Equal(block, []int{piece}) || !slices.Equal(known, []bool{true}) {
				t.Fatal(piece, no, block, known, ok)
			}
			if block, ok := impl.AddUp(1, l); !ok || !slices.Equal(block, []int{piece}) {
				t.Fatal(piece, no, block, ok)
			}
		}
	}
}

func TestGoodLetters(t *testing.T) {
	eachNos(impl.MaxLetters, func(pieces int, nos []int) {
		if l := lettersIn(mixedBlock(pieces, 3), nos); !impl.GoodLetters(pieces, l) {
			t.Fatal(pieces, l)
		}
	})
	for pieces := 1; pieces <= impl.MaxBlock; pieces++ {
		for _, l := range [][]impl.Letter{
			nil, {}, {{}}, {{No: lastNo}}, {{Sum: topPiece}}, {{No: lastNo, Sum: topPiece}, {No: 0, Sum: topPiece}},
			// Only the numbers have to be different.
			{{No: 1, Sum: 7}, {No: 2, Sum: 7}, {No: 7, Sum: 2}},
		} {
			if !impl.GoodLetters(pieces, l) {
				t.Error(pieces, l)
			}
		}
	}
}

// Promise 5, first half; and whatever peeling leaves out is 0 and unknown.
func TestPeelingRecoversThePiecesOfTheBlock(t *testing.T) {
	some, all, none := 0, 0, 0
	eachNos(impl.MaxLetters, func(pieces int, nos []int) {
		for _, block := range someBlocks(pieces) {
			l := lettersIn(block, nos)
			got, known, ok := impl.PeelOff(pieces, l)
			if !ok || len(got) != pieces || len(known) != pieces {
				t.Fatal(pieces, l, got, known, ok)
			}
			count := 0
			for k := range pieces {
				want := 0
				if known[k] {
					want = block[k]
					count++
				}
				if got[k] != want {
					t.Fatal(block, l, got, known)
				}
			}
			switch count {
			case 0:
				none++
			case pieces:
				all++
			default:
				some++
			}
		}
	})
	if some == 0 || all == 0 || none == 0 {
		t.Error(some, all, none)
	}
}

// The order of the list decides which pieces become known first, but not which ones become known.
func TestPeelingInAnotherOrder(t *testing.T) {
	eachNos(impl.MaxLetters, func(pieces int, nos []int) {
		l := lettersIn(mixedBlock(pieces, 4), nos)
		block, known, _ := impl.PeelOff(pieces, l)
		for range 3 {
			l = append(l[len(l)/3:], l[:len(l)/3]...)
			slices.Reverse(l)
			again, same, ok := impl.PeelOff(pieces, l)
			if !ok || !slices.Equal(again, block) || !slices.Equal(same, known) {
				t.Fatal(pieces, l, again, same, ok)
			}
		}
	})
}

func TestPeelOff(t *testing.T) {
	eachNos(impl.MaxLetters, func(pieces int, nos []int) {
		l := lettersIn(mixedBlock(pieces, 5), nos)
		for range 3 {
			want, wantKnown := peelIn(pieces, l)
			if block, known, ok := impl.PeelOff(pieces, l); !ok || !slices.Equal(block, want) || !slices.Equal(known, wantKnown) {
				t.Fatal(pieces, l, block, known, ok)
			}
			// From here on the Sums belong to no block: each choice of another symbol shows.
			for k, sum := range mixedBlock(len(l), uint64(len(l))) {
				l[k].Sum ^= sum
			}
		}
	})
}

func TestKnownPeeling(t *testing.T) {
	for _, c := range []struct {
		pieces int
		pairs  [][2]int
		block  []int
		known  []bool
	}{
		{3, nil, []int{0, 0, 0}, []bool{false, false, false}},
		{8, nil, make([]int, 8), make([]bool, 8)},
		{3, [][2]int{{0, 30}, {3, 20}}, []int{10, 20, 0}, []bool{true, true, false}},
		{3, [][2]int{{3, 20}, {0, 30}}, []int{10, 20, 0}, []bool{true, true, false}},
		{3, [][2]int{{3, 20}}, []int{0, 20, 0}, []bool{false, true, false}},
		// A piece may be 0 and known.
		{3, [][2]int{{3, 0}}, []int{0, 0, 0}, []bool{false, true, false}},
		// The rank is full, but no symbol covers one piece.
		{3, [][2]int{{0, 30}, {1, 20}, {4, 0}}, []int{0, 0, 0}, []bool{false, false, false}},
		{3, [][2]int{{4, 0}, {0, 30}, {3, 20}}, []int{10, 20, 30}, []bool{true, true, true}},
		{2, [][2]int{{0, topPiece}, {3, topPiece}}, []int{topPiece, 0}, []bool{true, true}},
		// Symbols 3 and 17 both cover piece 0 of two: the first one counts.
		{2, [][2]int{{3, 5}, {17, 9}}, []int{5, 0}, []bool{true, false}},
		{2, [][2]int{{17, 9}, {3, 5}}, []int{9, 0}, []bool{true, false}},
		{1, [][2]int{{0, 1}, {1, 2}, {2, 3}}, []int{1}, []bool{true}},
		// Symbol 0 covers one unknown piece after piece 1 is known, and lies before symbol 10, which covers piece 0 too.
		{3, [][2]int{{0, 1}, {3, 2}, {10, 4}}, []int{3, 2, 0}, []bool{true, true, false}},
		{3, [][2]int{{3, 2}, {10, 4}, {0, 1}}, []int{4, 2, 0}, []bool{true, true, false}},
		{3, [][2]int{{10, 4}, {0, 1}, {3, 2}}, []int{4, 5, 0}, []bool{true, true, false}},
	} {
		block, known, ok := impl.PeelOff(c.pieces, lettersOf(c.pairs))
		if !ok || !slices.Equal(block, c.block) || !slices.Equal(known, c.known) {
			t.Error(c, block, known, ok)
		}
	}
}

// Promise 5, second half. There are lists of every size from one symbol to the 20 that AddUp takes.
func TestGaussianDecodingAgreesWithPeeling(t *testing.T) {
	sizes := map[int]bool{}
	eachNos(maxListed, func(pieces int, nos []int) {
		for _, block := range someBlocks(pieces) {
			l := lettersIn(block, nos)
			peeled, known, _ := impl.PeelOff(pieces, l)
			if slices.Contains(known, false) {
				continue
			}
			sizes[len(l)] = true
			if got, ok := impl.AddUp(pieces, l); !ok || !slices.Equal(got, peeled) || !slices.Equal(got, block) {
				t.Fatal(block, l, got, ok)
			}
		}
	})
	if len(sizes) != maxListed {
		t.Error(sizes)
	}
}

// Peeling may stop where the rank is full: AddUp returns the block there, and it returns nothing where the rank is not full.
func TestAddUpReturnsTheBlock(t *testing.T) {
	stopped, less := 0, 0
	eachNos(maxListed, func(pieces int, nos []int) {
		full := len(spanOfRows(rowsIn(pieces, nos))) == 1<<pieces
		for _, block := range someBlocks(pieces) {
			l := lettersIn(block, nos)
			got, ok := impl.AddUp(pieces, l)
			if ok != full || full && !slices.Equal(got, block) || !full && len(got) != 0 {
				t.Fatal(block, l, got, ok)
			}
			if _, known, _ := impl.PeelOff(pieces, l); !full {
				less++
			} else if slices.Contains(known, false) {
				stopped++
			}
		}
	})
	if stopped == 0 || less == 0 {
		t.Error(stopped, less)
	}
}

// spanOfRows adds each row to all sums of the rows before it.
func spanOfRows(rows []int) map[int]bool {
	span := map[int]bool{0: true}
	for _, row := range rows {
		var more []int
		for x := range span {
			more = append(more, x^row)
		}
		for _, x := range more {
			span[x] = true
		}
	}
	return span
}

// The Sums belong to no block, so that only the symbols that MakeBy names give these pieces.
func TestAddUpTakesTheSymbolsOfMakeBy(t *testing.T) {
	check := func(pieces int, nos []int) {
		l := lettersIn(mixedBlock(pieces, 6), nos)
		for k, sum := range mixedBlock(len(l), uint64(len(l)+1)) {
			l[k].Sum ^= sum
		}
		want, wantOk := addIn(pieces, l)
		if block, ok := impl.AddUp(pieces, l); ok != wantOk || !slices.Equal(block, want) {
			t.Fatal(pieces, l, block, ok)
		}
	}
	eachNos(11, check)
	for pieces := 1; pieces <= impl.MaxBlock; pieces++ {
		check(pieces, numbersFrom(0, maxListed))
		check(pieces, mixedNos(maxListed, uint64(pieces)))
	}
}

func TestKnownSums(t *testing.T) {
	for _, c := range []struct {
		pieces int
		pairs  [][2]int
		block  []int
		ok     bool
	}{
		{3, [][2]int{{0, 30}, {3, 20}}, nil, false},
		{3, nil, nil, false},
		{1, nil, nil, false},
		{1, [][2]int{{0, topPiece}}, []int{topPiece}, true},
		{1, [][2]int{{5, 0}}, []int{0}, true},
		// Peeling recovers all pieces.
		{3, [][2]int{{4, 0}, {0, 30}, {3, 20}}, []int{10, 20, 30}, true},
		// Peeling recovers none.
		{3, [][2]int{{0, 30}, {1, 20}, {4, 0}}, []int{10, 20, 30}, true},
		// Pairs of pieces alone: the rank is 2.
		{3, [][2]int{{0, 30}, {1, 20}, {2, 10}}, nil, false},
		{3, [][2]int{{0, 30}, {1, 20}, {2, 10}, {7, 30}, {8, 20}, {9, 10}}, nil, false},
		// No two symbols agree: the first of them are taken.
		{1, [][2]int{{0, 1}, {1, 2}, {2, 3}}, []int{1}, true},
		{2, [][2]int{{3, 5}, {17, 9}, {10, 6}, {16, 8}}, []int{5, 6}, true},
		{2, [][2]int{{0, 1}, {3, 2}, {10, 4}}, []int{2, 3}, true},
	} {
		if block, ok := impl.AddUp(c.pieces, lettersOf(c.pairs)); ok != c.ok || !slices.Equal(block, c.block) {
			t.Error(c, block, ok)
		}
	}
}

func TestEnoughOf(t *testing.T) {
	enough, less := 0, 0
	eachNos(maxListed, func(pieces int, nos []int) {
		want := len(spanOfRows(rowsIn(pieces, nos))) == 1<<pieces
		if is, ok := impl.EnoughOf(pieces, nos); is != want || !ok {
			t.Fatal(pieces, nos, is, ok)
		}
		if _, can := impl.AddUp(pieces, lettersIn(mixedBlock(pieces, 7), nos)); can != want {
			t.Fatal(pieces, nos, can)
		}
		if want {
			enough++
		} else {
			less++
		}
	})
	if enough == 0 || less == 0 {
		t.Error(enough, less)
	}
}

func TestKnownEnough(t *testing.T) {
	for _, c := range []struct {
		pieces int
		nos    []int
		enough bool
	}{
		{3, []int{3, 0}, false},
		{3, []int{0, 1, 2}, false},
		{3, []int{0, 1, 2, 7, 8, 9, 14, 15}, false},
		{3, []int{3, 0, 1}, true},
		{3, []int{0, 1, 4}, true},
		{3, numbersFrom(0, maxListed), true},
		{3, numbersFrom(lastNo+1-maxListed, maxListed), true},
		{1, []int{0}, true},
		{1, []int{lastNo}, true},
		{1, numbersFrom(0, maxListed), true},
		{2, []int{3}, false},
		{2, []int{3, 10}, true},
		{2, []int{0, 1, 2, 4, 5}, false},
		{8, numbersFrom(0, 8), false},
		{8, numbersFrom(0, 9), true},
		{8, []int{3, 10, 16, 17, 23, 30, 36, 37}, true},
		{8, []int{3, 10, 16, 17, 23, 30, 36}, false},
		{8, numbersFrom(0, maxListed), true},
	} {
		if is, ok := impl.EnoughOf(c.pieces, c.nos); is != c.enough || !ok {
			t.Error(c, is, ok)
		}
	}
	for pieces := 1; pieces <= impl.MaxBlock; pieces++ {
		for _, empty := range [][]int{nil, {}} {
			if is, ok := impl.EnoughOf(pieces, empty); is || !ok {
				t.Error(pieces, is, ok)
			}
		}
	}
}

func refuseSymbol(t *testing.T, no int, pieces int) {
	t.Helper()
	if n, ok := impl.DegreeOf(no, pieces); n != 0 || ok {
		t.Error("DegreeOf", no, pieces, n, ok)
	}
	if l, ok := impl.PartsOf(no, pieces); len(l) != 0 || ok {
		t.Error("PartsOf", no, pieces, l, ok)
	}
}

func refuseLetter(t *testing.T, block []int, no int) {
	t.Helper()
	if x, ok := impl.LetterFor(block, no); x != (impl.Letter{}) || ok {
		t.Error("LetterFor", block, no, x, ok)
	}
}

func refuseAdding(t *testing.T, pieces int, l []impl.Letter) {
	t.Helper()
	if block, ok := impl.AddUp(pieces, l); len(block) != 0 || ok {
		t.Error("AddUp", pieces, l, block, ok)
	}
}

func refuseLetters(t *testing.T, pieces int, l []impl.Letter) {
	t.Helper()
	if impl.GoodLetters(pieces, l) {
		t.Error("GoodLetters", pieces, l)
	}
	if block, known, ok := impl.PeelOff(pieces, l); len(block) != 0 || len(known) != 0 || ok {
		t.Error("PeelOff", pieces, l, block, known, ok)
	}
	refuseAdding(t, pieces, l)
}

func refuseNos(t *testing.T, pieces int, nos []int) {
	t.Helper()
	if is, ok := impl.EnoughOf(pieces, nos); is || ok {
		t.Error("EnoughOf", pieces, nos, is, ok)
	}
}

func TestSymbolsRefuseInvalidNumbersOfPieces(t *testing.T) {
	for _, pieces := range badCounts {
		for _, no := range append([]int{0, 1, 3, 4, 500, lastNo}, badNos...) {
			refuseSymbol(t, no, pieces)
		}
		for _, nos := range [][]int{nil, {}, {0}, {3}, numbersFrom(0, maxListed)} {
			refuseLetters(t, pieces, lettersIn([]int{0}, nos))
			refuseNos(t, pieces, nos)
		}
	}
	for _, count := range []int{0, 9, 10, 16, 17, 1 << 16} {
		for _, no := range []int{-1, 0, 3, lastNo, lastNo + 1} {
			refuseLetter(t, make([]int, count), no)
		}
	}
	refuseLetter(t, nil, 0)
}

// eachPlace gives valid lists of symbols of a block and each of their indexes, where a test puts something invalid.
func eachPlace(f func(block []int, l []impl.Letter, at int)) {
	for pieces := 1; pieces <= impl.MaxBlock; pieces++ {
		block := mixedBlock(pieces, 8)
		for _, count := range []int{1, 2, 10, maxListed} {
			l := lettersIn(block, numbersFrom(100, count))
			for at := range l {
				f(block, slices.Clone(l), at)
			}
		}
	}
}

func TestSymbolsRefuseInvalidNumbers(t *testing.T) {
	for _, no := range badNos {
		for pieces := 1; pieces <= impl.MaxBlock; pieces++ {
			refuseSymbol(t, no, pieces)
			refuseLetter(t, make([]int, pieces), no)
		}
		eachPlace(func(block []int, l []impl.Letter, at int) {
			l[at].No = no
			refuseLetters(t, len(block), l)
			refuseNos(t, len(block), nosOf(l))
		})
	}
}

// A piece that the symbol does not cover has to be valid too.
func TestLetterForRefusesInvalidPieces(t *testing.T) {
	for _, piece := range badPieces {
		for pieces := 1; pieces <= impl.MaxBlock; pieces++ {
			for at := range pieces {
				block := mixedBlock(pieces, 9)
				block[at] = piece
				for _, no := range append(numbersFrom(0, 40), lastNo) {
					refuseLetter(t, block, no)
				}
			}
		}
	}
	// Their sum would be valid.
	for _, block := range [][]int{{-1, -1}, {-1, -2}, {1 << 32, 1 << 32}, {1 << 40, 1<<40 + 1}} {
		refuseLetter(t, block, 0)
	}
}

func TestSymbolsRefuseInvalidSums(t *testing.T) {
	for _, sum := range badPieces {
		eachPlace(func(block []int, l []impl.Letter, at int) {
			l[at].Sum = sum
			refuseLetters(t, len(block), l)
		})
	}
}

// Two symbols with the same number are refused even if they are equal.
func TestSymbolsRefuseEqualNumbers(t *testing.T) {
	eachPlace(func(block []int, l []impl.Letter, at int) {
		for other := range at {
			same := slices.Clone(l)
			same[at] = l[other]
			refuseLetters(t, len(block), same)
			refuseNos(t, len(block), nosOf(same))
			same[at].Sum ^= 1
			refuseLetters(t, len(block), same)
		}
	})
	for _, no := range []int{0, 1, 500, lastNo} {
		refuseLetters(t, 1, []impl.Letter{{No: no}, {No: no}})
		refuseNos(t, 1, []int{no, no})
	}
}

// AddUp and EnoughOf take 20 symbols, the other functions 40.
func TestSymbolsRefuseLongLists(t *testing.T) {
	for pieces := 1; pieces <= impl.MaxBlock; pieces++ {
		block := mixedBlock(pieces, 10)
		for count := maxListed; count <= impl.MaxLetters+2; count++ {
			nos := numbersFrom(0, count)
			l := lettersIn(block, nos)
			if count > impl.MaxLetters {
				refuseLetters(t, pieces, l)
			} else if got, _, ok := impl.PeelOff(pieces, l); !ok || !impl.GoodLetters(pieces, l) || !slices.Equal(got, block) {
				t.Error(pieces, count, got, ok)
			}
			if count > maxListed {
				refuseAdding(t, pieces, l)
				refuseNos(t, pieces, nos)
			} else if got, ok := impl.AddUp(pieces, l); !ok || !slices.Equal(got, block) {
				t.Error(pieces, count, got, ok)
			}
		}
		for _, count := range []int{1000, 1001, 1 << 16} {
			refuseLetters(t, pieces, make([]impl.Letter, count))
			refuseNos(t, pieces, make([]int, count))
			refuseNos(t, pieces, numbersFrom(0, count))
		}
	}
}

// lettersWithTail puts symbols behind the length of the list that would be invalid or make it too long.
func lettersWithTail(l []impl.Letter) ([]impl.Letter, []impl.Letter) {
	whole := append(slices.Clone(l), impl.Letter{No: -1, Sum: -1}, impl.Letter{No: 3, Sum: 5}, impl.Letter{})
	return whole[:len(l)], whole
}

// callLetters calls every function of the chapter that takes symbols and gathers what they return.
func callLetters(pieces int, l []impl.Letter) [][]int {
	block, known, ok := impl.PeelOff(pieces, l)
	all := [][]int{{asNumber(impl.GoodLetters(pieces, l)), asNumber(ok)}, block}
	for _, is := range known {
		all = append(all, []int{asNumber(is)})
	}
	block, ok = impl.AddUp(pieces, l)
	return append(all, block, []int{asNumber(ok)})
}

// Promise 19: symbols are neither changed nor read behind the length of their list.
func TestLettersAreLeftAlone(t *testing.T) {
	check := func(pieces int, l []impl.Letter) {
		letters, whole := lettersWithTail(l)
		before := slices.Clone(whole)
		got := callLetters(pieces, letters)
		if !slices.Equal(whole, before) {
			t.Fatal("changed", pieces, l, whole)
		}
		if !slices.EqualFunc(got, callLetters(pieces, slices.Clip(slices.Clone(l))), slices.Equal) {
			t.Fatal("read behind the length", pieces, l, got)
		}
	}
	eachNos(impl.MaxLetters, func(pieces int, nos []int) {
		check(pieces, lettersIn(mixedBlock(pieces, 11), nos))
	})
	for _, pieces := range append([]int{1, 2, 3, 8}, badCounts...) {
		for _, l := range [][]impl.Letter{
			nil, {{}}, {{No: -1}}, {{No: 1000}}, {{Sum: -1}}, {{Sum: 1 << 32}}, {{}, {}}, {{No: 3, Sum: 1}, {No: 3, Sum: 2}},
			{{No: math.MinInt, Sum: math.MinInt}, {No: math.MaxInt, Sum: math.MaxInt}}, make([]impl.Letter, impl.MaxLetters+1),
		} {
			check(pieces, l)
		}
	}
}

func TestNumbersAndBlocksOfPiecesAreLeftAlone(t *testing.T) {
	check := func(pieces int, l []int) {
		list, whole := withTail(l)
		before := slices.Clone(whole)
		is, ok := impl.EnoughOf(pieces, list)
		if want, wantOk := impl.EnoughOf(pieces, slices.Clip(slices.Clone(l))); is != want || ok != wantOk || !slices.Equal(whole, before) {
			t.Fatal("EnoughOf", pieces, l, is, ok, whole)
		}
		for _, no := range []int{-1, 0, 3, 4, 6, lastNo, lastNo + 1} {
			x, ok := impl.LetterFor(list, no)
			if want, wantOk := impl.LetterFor(slices.Clip(slices.Clone(l)), no); x != want || ok != wantOk || !slices.Equal(whole, before) {
				t.Fatal("LetterFor", l, no, x, ok, whole)
			}
		}
	}
	eachNos(maxListed, check)
	for pieces := range impl.MaxBlock + 3 {
		for _, l := range [][]int{nil, {0}, {0, 0}, {3, 0, 3}, {-1}, {1, 1 << 32}, {lastNo + 1}, make([]int, 8), make([]int, 9), numbersFrom(0, maxListed+1)} {
			check(pieces, l)
		}
	}
}

// One result is overwritten up to its capacity, which must show in no argument, in no other result and in no later result.
func TestSymbolsReturnNewMemory(t *testing.T) {
	for pieces := 1; pieces <= impl.MaxBlock; pieces++ {
		for no := range 40 {
			first, _ := impl.PartsOf(no, pieces)
			second, _ := impl.PartsOf(no, pieces)
			overwrite(first)
			third, _ := impl.PartsOf(no, pieces)
			if want := partsIn(no, pieces); !slices.Equal(second, want) || !slices.Equal(third, want) {
				t.Fatal("PartsOf", no, pieces, second, third)
			}
		}
	}
	eachNos(maxListed, func(pieces int, nos []int) {
		l := lettersIn(mixedBlock(pieces, 12), nos)
		before := slices.Clone(l)
		want, wantKnown := peelIn(pieces, l)
		block, known, _ := impl.PeelOff(pieces, l)
		overwrite(block)
		if !slices.Equal(known, wantKnown) {
			t.Fatal("shared", pieces, l, known)
		}
		for k := range known {
			known[k] = !known[k]
		}
		added, ok := impl.AddUp(pieces, l)
		wantAdded := slices.Clone(added)
		overwrite(added)
		again, isKnown, _ := impl.PeelOff(pieces, l)
		if !slices.Equal(again, want) || !slices.Equal(isKnown, wantKnown) || !slices.Equal(l, before) {
			t.Fatal("PeelOff", pieces, l, again, isKnown)
		}
		if added, is := impl.AddUp(pieces, l); is != ok || !slices.Equal(added, wantAdded) {
			t.Fatal("AddUp", pieces, l, added, is)
		}
	})
}

// The order in which a map is visited differs from call to call; the result must not.
func TestPeelingDoesNotDependOnTheCall(t *testing.T) {
	for pieces := 1; pieces <= impl.MaxBlock; pieces++ {
		l := lettersIn(mixedBlock(pieces, 13), numbersFrom(0, impl.MaxLetters))
		for k := range l {
			l[k].Sum ^= k * 1000
		}
		want, wantKnown := peelIn(pieces, l)
		for range 200 {
			if block, known, ok := impl.PeelOff(pieces, l); !ok || !slices.Equal(block, want) || !slices.Equal(known, wantKnown) {
				t.Fatal(pieces, block, known, ok)
			}
		}
	}
}
