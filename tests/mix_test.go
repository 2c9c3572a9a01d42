package tests

import (
	"math"
	"slices"
	"testing"

	"loop.example/g00647/impl"
)

const (
	maxMix      = 60
	maxMixLines = 10
)

var (
	// badMixLines lie just outside 1..10 and at the ends of int. Most of them divide 60 or 0.
	badMixLines = []int{math.MinInt, math.MinInt + 1, -60, -10, -6, -2, -1, 0, 11, 12, 15, 20, 30, 60, 61, 257, 1 << 32, math.MaxInt - 1, math.MaxInt}
	// badValues lie just outside 0..255 and at the ends of int.
	badValues = []int{math.MinInt, math.MinInt + 1, -256, -255, -2, -1, 256, 257, 511, 1 << 16, 1 << 32, math.MaxInt - 1, math.MaxInt}
)

// eachShape gives every valid length with every valid number of lines.
func eachShape(f func(long, lines int)) {
	for lines := 1; lines <= maxMixLines; lines++ {
		for long := 0; long <= maxMix; long += lines {
			f(long, lines)
		}
	}
}

// badMixLongs holds the lengths up to 130 on either side of 0 that the number of lines does not allow, and such lengths at the ends of int.
func badMixLongs(lines int) []int {
	all := []int{math.MinInt, math.MinInt + 1, math.MinInt / lines * lines, -1 << 32, 1 << 32, math.MaxInt / lines * lines, math.MaxInt - 1, math.MaxInt}
	for long := -130; long <= 130; long++ {
		if long < 0 || long > maxMix || long%lines != 0 {
			all = append(all, long)
		}
	}
	return all
}

// eachBadShape gives invalid numbers of lines with valid lengths and with others, and the invalid lengths for each number of lines.
func eachBadShape(f func(long, lines int)) {
	for _, lines := range badMixLines {
		for long := -1; long <= maxMix+1; long++ {
			f(long, lines)
		}
		f(lines, lines)
	}
	for lines := 1; lines <= maxMixLines; lines++ {
		for _, long := range badMixLongs(lines) {
			f(long, lines)
		}
	}
}

// linesIn cuts a list into its lines.
func linesIn(l []int, lines int) [][]int {
	wide := len(l) / lines
	var all [][]int
	for line := range lines {
		all = append(all, l[line*wide:(line+1)*wide])
	}
	return all
}

// mixIn reads the lines column by column.
func mixIn(l []int, lines int) []int {
	all := linesIn(l, lines)
	var mixed []int
	for column := range len(l) / lines {
		for _, line := range all {
			mixed = append(mixed, line[column])
		}
	}
	return mixed
}

// mixedLinesIn is the interleaved list of the numbers of the lines.
func mixedLinesIn(long int, lines int) []int {
	var numbers []int
	for line := range lines {
		for range long / lines {
			numbers = append(numbers, line)
		}
	}
	return mixIn(numbers, lines)
}

func lossesAmong(numbers []int, lines int) []int {
	counts := make([]int, lines)
	for _, line := range numbers {
		counts[line]++
	}
	return counts
}

// spreadIn tries all pairs of positions.
func spreadIn(long int, lines int) int {
	numbers := mixedLinesIn(long, lines)
	least := long
	for i := range numbers {
		for j := range i {
			if numbers[i] == numbers[j] {
				least = min(least, i-j)
			}
		}
	}
	return least
}

func parityIn(l []int, lines int) []int {
	var parity []int
	for _, line := range linesIn(l, lines) {
		sum := 0
		for _, value := range line {
			sum ^= value
		}
		parity = append(parity, sum)
	}
	return parity
}

// mendIn adds the other values of the line to its parity.
func mendIn(l []int, lines int, parity []int, lost []int) []int {
	l = slices.Clone(l)
	for _, k := range lost {
		line := k * lines / len(l)
		l[k] = 0
		l[k] = parity[line] ^ parityIn(l, lines)[line]
	}
	return l
}

func mixedValues(count int, seed uint64) []int {
	return mixedRows(8, count, seed)
}

// valueLists holds lists at both ends of the range, of different values, and mixed ones.
func valueLists(long int) [][]int {
	top, both := make([]int, long), make([]int, long)
	for k := range long {
		top[k] = 255
		both[k] = 255 * (k % 2)
	}
	return [][]int{make([]int, long), top, both, numbersFrom(0, long), numbersFrom(256-long, long), mixedValues(long, 61), mixedValues(long, 62)}
}

// eachMix gives lists of every valid shape.
func eachMix(f func(l []int, lines int)) {
	eachShape(func(long, lines int) {
		for _, l := range valueLists(long) {
			f(l, lines)
		}
	})
}

// lostOneEach holds lists of indexes with at most one in each line: none, one alone, one in each line at the same column and at mixed ones, and one in each second line.
func lostOneEach(long int, lines int) [][]int {
	all := [][]int{nil, {}}
	if long == 0 {
		return all
	}
	wide := long / lines
	for k := range long {
		all = append(all, []int{k})
	}
	for column := range wide {
		var each, second []int
		for line := range lines {
			each = append(each, line*wide+column)
			if line%2 == 1 {
				second = append(second, line*wide+column)
			}
		}
		all = append(all, each, second)
	}
	var mixed []int
	for line, column := range mixedRows(8, lines, uint64(long)) {
		mixed = append(mixed, line*wide+column%wide)
	}
	return append(all, mixed)
}

// lossy is a copy of the list with another value at each of these indexes.
func lossy(l []int, indexes []int, seed uint64) []int {
	l = slices.Clone(l)
	for i, change := range mixedRows(8, len(indexes), seed) {
		l[indexes[i]] ^= max(change, 1)
	}
	return l
}

func TestMaxMix(t *testing.T) {
	if impl.MaxMix != 60 {
		t.Fatal(impl.MaxMix)
	}
}

func TestMixBy(t *testing.T) {
	eachMix(func(l []int, lines int) {
		if mixed, ok := impl.MixBy(l, lines); !ok || !slices.Equal(mixed, mixIn(l, lines)) {
			t.Fatal(l, lines, mixed, ok)
		}
	})
}

func TestUnmixBy(t *testing.T) {
	eachMix(func(l []int, lines int) {
		if values, ok := impl.UnmixBy(mixIn(l, lines), lines); !ok || !slices.Equal(values, l) {
			t.Fatal(l, lines, values, ok)
		}
	})
}

// Worked out apart from the program.
func TestKnownMixes(t *testing.T) {
	for _, c := range []struct {
		l     []int
		lines int
		mixed []int
	}{
		{nil, 1, nil},
		{[]int{}, 10, nil},
		{[]int{0}, 1, []int{0}},
		{[]int{255}, 1, []int{255}},
		{[]int{1, 2, 3, 4, 5, 6}, 1, []int{1, 2, 3, 4, 5, 6}},
		{[]int{1, 2, 3, 4, 5, 6}, 2, []int{1, 4, 2, 5, 3, 6}},
		{[]int{1, 2, 3, 4, 5, 6}, 3, []int{1, 3, 5, 2, 4, 6}},
		{[]int{1, 2, 3, 4, 5, 6}, 6, []int{1, 2, 3, 4, 5, 6}},
		{[]int{0, 255, 255, 0}, 2, []int{0, 255, 255, 0}},
		{[]int{0, 0, 255, 255}, 2, []int{0, 255, 0, 255}},
		{[]int{7, 8, 9, 10, 11, 12, 13, 14}, 4, []int{7, 9, 11, 13, 8, 10, 12, 14}},
		{[]int{7, 8, 9, 10, 11, 12, 13, 14}, 2, []int{7, 11, 8, 12, 9, 13, 10, 14}},
		{numbersFrom(1, 20), 10, []int{1, 3, 5, 7, 9, 11, 13, 15, 17, 19, 2, 4, 6, 8, 10, 12, 14, 16, 18, 20}},
		{numbersFrom(246, 10), 10, numbersFrom(246, 10)},
	} {
		if mixed, ok := impl.MixBy(c.l, c.lines); !ok || !slices.Equal(mixed, c.mixed) {
			t.Error("MixBy", c, mixed, ok)
		}
		if l, ok := impl.UnmixBy(c.mixed, c.lines); !ok || !slices.Equal(l, c.l) {
			t.Error("UnmixBy", c, l, ok)
		}
	}
}

// The interleaved list of 60 values has the columns of each number of lines one behind the other.
func TestMixesOfTheLongestList(t *testing.T) {
	l := numbersFrom(100, maxMix)
	for _, c := range []struct {
		lines int
		front []int
	}{
		{1, []int{100, 101, 102, 103}},
		{2, []int{100, 130, 101, 131}},
		{3, []int{100, 120, 140, 101}},
		{4, []int{100, 115, 130, 145, 101}},
		{5, []int{100, 112, 124, 136, 148, 101}},
		{6, []int{100, 110, 120, 130, 140, 150, 101}},
		{10, []int{100, 106, 112, 118, 124, 130, 136, 142, 148, 154, 101}},
	} {
		mixed, ok := impl.MixBy(l, c.lines)
		if !ok || len(mixed) != maxMix || !slices.Equal(mixed[:len(c.front)], c.front) || mixed[maxMix-1] != 159 {
			t.Error(c, mixed, ok)
		}
	}
}

// Promise 8, first part.
func TestUnmixingRestoresTheList(t *testing.T) {
	eachMix(func(l []int, lines int) {
		mixed, ok := impl.MixBy(l, lines)
		if got, is := impl.UnmixBy(mixed, lines); !ok || !is || !slices.Equal(got, l) {
			t.Fatal("UnmixBy of MixBy", l, lines, mixed, got)
		}
		unmixed, ok := impl.UnmixBy(l, lines)
		if got, is := impl.MixBy(unmixed, lines); !ok || !is || !slices.Equal(got, l) {
			t.Fatal("MixBy of UnmixBy", l, lines, unmixed, got)
		}
	})
}

func TestPlaceOf(t *testing.T) {
	eachShape(func(long, lines int) {
		mixed, _ := impl.MixBy(numbersFrom(0, long), lines)
		for k := range long {
			place, ok := impl.PlaceOf(long, lines, k)
			if !ok || place < 0 || place >= long || mixed[place] != k {
				t.Fatal(long, lines, k, place, ok)
			}
			if place != slices.Index(mixIn(numbersFrom(0, long), lines), k) {
				t.Fatal("another place", long, lines, k, place)
			}
		}
	})
}

func TestFirstAndLastValuesKeepTheirPlaces(t *testing.T) {
	eachShape(func(long, lines int) {
		if long == 0 {
			return
		}
		if place, ok := impl.PlaceOf(long, lines, 0); place != 0 || !ok {
			t.Fatal("first", long, lines, place, ok)
		}
		if place, ok := impl.PlaceOf(long, lines, long-1); place != long-1 || !ok {
			t.Fatal("last", long, lines, place, ok)
		}
	})
}

func TestKnownPlaces(t *testing.T) {
	for _, c := range [][4]int{
		{1, 1, 0, 0}, {6, 2, 0, 0}, {6, 2, 1, 2}, {6, 2, 2, 4}, {6, 2, 3, 1}, {6, 2, 4, 3}, {6, 2, 5, 5}, {6, 3, 4, 2}, {6, 1, 4, 4}, {6, 6, 4, 4},
		{60, 1, 59, 59}, {60, 1, 31, 31}, {60, 10, 59, 59}, {60, 10, 6, 1}, {60, 10, 5, 50}, {60, 10, 53, 58}, {60, 10, 54, 9}, {60, 4, 15, 1}, {60, 4, 14, 56},
		{10, 10, 0, 0}, {10, 10, 7, 7}, {10, 10, 9, 9},
	} {
		if place, ok := impl.PlaceOf(c[0], c[1], c[2]); place != c[3] || !ok {
			t.Error(c, place, ok)
		}
	}
}

// Every burst, with no position and with all positions among them.
func TestLossesIn(t *testing.T) {
	eachShape(func(long, lines int) {
		numbers := mixedLinesIn(long, lines)
		for from := range long + 1 {
			for many := range long - from + 1 {
				losses, ok := impl.LossesIn(long, lines, from, many)
				if !ok || !slices.Equal(losses, lossesAmong(numbers[from:from+many], lines)) {
					t.Fatal(long, lines, from, many, losses, ok)
				}
			}
		}
	})
}

// The losses are those of the values that PlaceOf puts into the burst.
func TestLossesAgreeWithPlaces(t *testing.T) {
	eachShape(func(long, lines int) {
		for from := range long {
			many := min(long-from, 2*lines+1)
			counts := make([]int, lines)
			for k := range long {
				if place, _ := impl.PlaceOf(long, lines, k); place >= from && place < from+many {
					counts[k/(long/lines)]++
				}
			}
			if losses, ok := impl.LossesIn(long, lines, from, many); !ok || !slices.Equal(losses, counts) {
				t.Fatal(long, lines, from, many, losses, counts)
			}
		}
	})
}

// Promise 8, second part: every burst of at most as many positions as there are lines.
func TestShortBurstsHitEachLineAtMostOnce(t *testing.T) {
	eachShape(func(long, lines int) {
		for from := range long + 1 {
			for many := range min(lines, long-from) + 1 {
				losses, ok := impl.LossesIn(long, lines, from, many)
				if !ok || len(losses) != lines {
					t.Fatal(long, lines, from, many, losses, ok)
				}
				sum := 0
				for _, count := range losses {
					sum += count
				}
				if slices.Min(losses) < 0 || slices.Max(losses) > 1 || sum != many {
					t.Fatal(long, lines, from, many, losses)
				}
			}
		}
	})
}

// Promise 8 on lists: the values of a short burst are restored, because no line lost more than one.
func TestShortBurstsAreMended(t *testing.T) {
	eachShape(func(long, lines int) {
		l := mixedValues(long, 63)
		parity, _ := impl.ParityFor(l, lines)
		mixed, _ := impl.MixBy(l, lines)
		for from := range long {
			for many := range min(lines, long-from) + 1 {
				damaged, _ := impl.UnmixBy(lossy(mixed, numbersFrom(from, many), 63), lines)
				var lost []int
				for k := range long {
					if place, _ := impl.PlaceOf(long, lines, k); place >= from && place < from+many {
						lost = append(lost, k)
					}
				}
				if got, ok := impl.MendLines(damaged, lines, parity, lost); !ok || !slices.Equal(got, l) {
					t.Fatal(l, lines, from, many, lost, got, ok)
				}
			}
		}
	})
}

func TestKnownLosses(t *testing.T) {
	for _, c := range []struct {
		long, lines, from, many int
		losses                  []int
	}{
		{0, 1, 0, 0, []int{0}},
		{0, 10, 0, 0, make([]int, 10)},
		{6, 2, 1, 2, []int{1, 1}},
		{6, 2, 0, 1, []int{1, 0}},
		{6, 2, 1, 1, []int{0, 1}},
		{6, 2, 0, 6, []int{3, 3}},
		{6, 2, 6, 0, []int{0, 0}},
		{6, 2, 3, 0, []int{0, 0}},
		{6, 2, 1, 3, []int{1, 2}},
		{6, 3, 2, 2, []int{1, 0, 1}},
		{6, 3, 2, 4, []int{1, 1, 2}},
		{6, 1, 2, 4, []int{4}},
		{60, 1, 0, 60, []int{60}},
		{60, 10, 0, 60, []int{6, 6, 6, 6, 6, 6, 6, 6, 6, 6}},
		{60, 10, 7, 5, []int{1, 1, 0, 0, 0, 0, 0, 1, 1, 1}},
		{60, 10, 55, 5, []int{0, 0, 0, 0, 0, 1, 1, 1, 1, 1}},
		{60, 10, 60, 0, make([]int, 10)},
		{10, 10, 9, 1, []int{0, 0, 0, 0, 0, 0, 0, 0, 0, 1}},
	} {
		if losses, ok := impl.LossesIn(c.long, c.lines, c.from, c.many); !ok || !slices.Equal(losses, c.losses) {
			t.Error(c, losses, ok)
		}
	}
}

func TestSpreadOf(t *testing.T) {
	eachShape(func(long, lines int) {
		if spread, ok := impl.SpreadOf(long, lines); spread != spreadIn(long, lines) || !ok {
			t.Fatal(long, lines, spread, ok)
		}
	})
}

// No value in a line, one value, two values and more.
func TestKnownSpreads(t *testing.T) {
	for _, c := range [][3]int{
		{0, 1, 0}, {0, 7, 0}, {0, 10, 0}, {1, 1, 1}, {7, 7, 7}, {10, 10, 10}, {2, 1, 1}, {14, 7, 7}, {20, 10, 10}, {6, 2, 2}, {6, 1, 1}, {60, 1, 1}, {60, 6, 6}, {60, 10, 10},
	} {
		if spread, ok := impl.SpreadOf(c[0], c[1]); spread != c[2] || !ok {
			t.Error(c, spread, ok)
		}
	}
}

func TestParityFor(t *testing.T) {
	eachMix(func(l []int, lines int) {
		if parity, ok := impl.ParityFor(l, lines); !ok || !slices.Equal(parity, parityIn(l, lines)) {
			t.Fatal(l, lines, parity, ok)
		}
	})
}

func TestKnownParities(t *testing.T) {
	for _, c := range []struct {
		l      []int
		lines  int
		parity []int
	}{
		{nil, 1, []int{0}},
		{[]int{}, 3, []int{0, 0, 0}},
		{nil, 10, make([]int, 10)},
		{[]int{0}, 1, []int{0}},
		{[]int{255}, 1, []int{255}},
		{[]int{1, 2, 3, 4, 5, 6}, 2, []int{0, 7}},
		{[]int{1, 2, 3, 4, 5, 6}, 1, []int{7}},
		{[]int{1, 2, 3, 4, 5, 6}, 3, []int{3, 7, 3}},
		{[]int{1, 2, 3, 4, 5, 6}, 6, []int{1, 2, 3, 4, 5, 6}},
		{[]int{255, 255, 255, 0}, 2, []int{0, 255}},
		{[]int{170, 85, 240, 16}, 2, []int{255, 224}},
		{numbersFrom(246, 10), 10, numbersFrom(246, 10)},
	} {
		if parity, ok := impl.ParityFor(c.l, c.lines); !ok || !slices.Equal(parity, c.parity) {
			t.Error(c, parity, ok)
		}
	}
}

// Lists whose lost values are others: the parity of the right list restores them.
func TestMendLinesRestoresLostValues(t *testing.T) {
	eachShape(func(long, lines int) {
		for seed, l := range valueLists(long) {
			parity, _ := impl.ParityFor(l, lines)
			for _, lost := range lostOneEach(long, lines) {
				damaged := lossy(l, lost, uint64(seed))
				if got, ok := impl.MendLines(damaged, lines, parity, lost); !ok || !slices.Equal(got, l) {
					t.Fatal(l, lines, lost, damaged, got, ok)
				}
			}
		}
	})
}

// Any parity: only the lines with a lost value get it, and only by that value.
func TestMendLinesGivesTheLinesTheirParity(t *testing.T) {
	eachShape(func(long, lines int) {
		l := mixedValues(long, 64)
		for _, parity := range [][]int{make([]int, lines), slices.Repeat([]int{255}, lines), mixedValues(lines, 65), mixedValues(lines, 66)} {
			for _, lost := range lostOneEach(long, lines) {
				if got, ok := impl.MendLines(l, lines, parity, lost); !ok || !slices.Equal(got, mendIn(l, lines, parity, lost)) {
					t.Fatal(l, lines, parity, lost, got, ok)
				}
			}
		}
	})
}

// Every value in a lost place, and every parity.
func TestMendedValuesDoNotDependOnLostOnes(t *testing.T) {
	for value := range 256 {
		for parity := range 256 {
			got, ok := impl.MendLines([]int{1, value, 30, 40}, 2, []int{parity, 255 - parity}, []int{1})
			if !ok || !slices.Equal(got, []int{1, 1 ^ parity, 30, 40}) {
				t.Fatal(value, parity, got, ok)
			}
		}
	}
}

func TestKnownMendings(t *testing.T) {
	for _, c := range []struct {
		l            []int
		lines        int
		parity, lost []int
		mended       []int
	}{
		{[]int{1, 99, 3, 4, 5, 6}, 2, []int{0, 7}, []int{1}, []int{1, 2, 3, 4, 5, 6}},
		{[]int{1, 2, 3, 4, 5, 6}, 2, []int{0, 7}, nil, []int{1, 2, 3, 4, 5, 6}},
		{[]int{1, 2, 3, 4, 5, 6}, 2, []int{9, 200}, []int{}, []int{1, 2, 3, 4, 5, 6}},
		{[]int{1, 99, 3, 4, 5, 6}, 2, []int{0, 200}, []int{1}, []int{1, 2, 3, 4, 5, 6}},
		{[]int{1, 2, 3, 4, 99, 6}, 2, []int{200, 7}, []int{4}, []int{1, 2, 3, 4, 5, 6}},
		{[]int{0, 2, 3, 4, 5, 255}, 2, []int{0, 7}, []int{0, 5}, []int{1, 2, 3, 4, 5, 6}},
		{[]int{1, 2, 0, 0, 5, 6}, 2, []int{0, 7}, []int{2, 3}, []int{1, 2, 3, 4, 5, 6}},
		{[]int{0, 0, 0, 0, 0, 0}, 6, []int{1, 2, 3, 4, 5, 6}, []int{0, 1, 2, 3, 4, 5}, []int{1, 2, 3, 4, 5, 6}},
		{[]int{0, 0, 0, 0, 0, 0}, 6, []int{1, 2, 3, 4, 5, 6}, []int{0, 5}, []int{1, 0, 0, 0, 0, 6}},
		{[]int{1, 2, 3, 4, 5, 77}, 1, []int{7}, []int{5}, []int{1, 2, 3, 4, 5, 6}},
		{[]int{255}, 1, []int{0}, []int{0}, []int{0}},
		{[]int{0}, 1, []int{255}, []int{0}, []int{255}},
		{nil, 1, []int{0}, nil, nil},
		{[]int{}, 3, []int{0, 255, 7}, []int{}, nil},
	} {
		if mended, ok := impl.MendLines(c.l, c.lines, c.parity, c.lost); !ok || !slices.Equal(mended, c.mended) {
			t.Error(c, mended, ok)
		}
	}
}

// Every set of indexes of a short list: those with two in one line are refused.
func TestMendLinesTakesOneLostValueInEachLine(t *testing.T) {
	for lines := 1; lines <= maxMixLines; lines++ {
		for long := lines; long <= 10; long += lines {
			l, parity := mixedValues(long, 67), mixedValues(lines, 68)
			for set := range 1 << long {
				lost := indexesOf(set)
				counts := make([]int, lines)
				for _, k := range lost {
					counts[k*lines/long]++
				}
				if slices.Max(counts) > 1 {
					refuseMending(t, l, lines, parity, lost)
				} else if got, ok := impl.MendLines(l, lines, parity, lost); !ok || !slices.Equal(got, mendIn(l, lines, parity, lost)) {
					t.Fatal(l, lines, parity, lost, got, ok)
				}
			}
		}
	}
}

func refuseMending(t *testing.T, l []int, lines int, parity []int, lost []int) {
	t.Helper()
	if mended, ok := impl.MendLines(l, lines, parity, lost); len(mended) != 0 || ok {
		t.Fatal("MendLines", l, lines, parity, lost, mended, ok)
	}
}

// refuseMix gives the list to every function that takes one, with a parity for each line where that is possible.
func refuseMix(t *testing.T, l []int, lines int) {
	t.Helper()
	if mixed, ok := impl.MixBy(l, lines); len(mixed) != 0 || ok {
		t.Fatal("MixBy", l, lines, mixed, ok)
	}
	if values, ok := impl.UnmixBy(l, lines); len(values) != 0 || ok {
		t.Fatal("UnmixBy", l, lines, values, ok)
	}
	if parity, ok := impl.ParityFor(l, lines); len(parity) != 0 || ok {
		t.Fatal("ParityFor", l, lines, parity, ok)
	}
	parity := make([]int, max(0, min(lines, 300)))
	for _, lost := range [][]int{nil, {0}, {len(l) - 1}} {
		refuseMending(t, l, lines, parity, lost)
	}
}

func refusePlace(t *testing.T, long int, lines int, k int) {
	t.Helper()
	if place, ok := impl.PlaceOf(long, lines, k); place != 0 || ok {
		t.Fatal("PlaceOf", long, lines, k, place, ok)
	}
}

func refuseLosses(t *testing.T, long int, lines int, from int, many int) {
	t.Helper()
	if losses, ok := impl.LossesIn(long, lines, from, many); len(losses) != 0 || ok {
		t.Fatal("LossesIn", long, lines, from, many, losses, ok)
	}
}

func TestInvalidShapesAreRefused(t *testing.T) {
	eachBadShape(func(long, lines int) {
		for _, k := range []int{math.MinInt, -1, 0, 1, long - 1, long, math.MaxInt} {
			refusePlace(t, long, lines, k)
			refuseLosses(t, long, lines, k, 0)
			refuseLosses(t, long, lines, 0, k)
		}
		if spread, ok := impl.SpreadOf(long, lines); spread != 0 || ok {
			t.Fatal("SpreadOf", long, lines, spread, ok)
		}
		if long >= 0 && long <= 130 {
			refuseMix(t, make([]int, long), lines)
			refuseMix(t, mixedValues(long, 69), lines)
		}
	})
}

func TestEmptyListWithInvalidLinesIsRefused(t *testing.T) {
	for _, lines := range badMixLines {
		refuseMix(t, nil, lines)
		refuseMix(t, []int{}, lines)
	}
}

func TestLongListsAreRefused(t *testing.T) {
	for lines := 1; lines <= maxMixLines; lines++ {
		for _, long := range []int{maxMix/lines*lines + lines, 2520, 252000} {
			refuseMix(t, make([]int, long), lines)
		}
	}
}

// One invalid value in each place, which may be the lost one.
func TestInvalidValuesAreRefused(t *testing.T) {
	eachShape(func(long, lines int) {
		for at := range long {
			for _, value := range badValues {
				l := mixedValues(long, 70)
				l[at] = value
				refuseMix(t, l, lines)
				refuseMending(t, l, lines, make([]int, lines), []int{at})
			}
		}
	})
}

func TestPlaceOfRefusesOtherIndexes(t *testing.T) {
	eachShape(func(long, lines int) {
		for _, k := range []int{math.MinInt, math.MinInt + 1, -long - 1, -lines - 1, -2, -1, long, long + 1, long + lines, maxMix, maxMix + 1, 1 << 32, math.MaxInt - 1, math.MaxInt} {
			if k < 0 || k >= long {
				refusePlace(t, long, lines, k)
			}
		}
	})
}

// Negative numbers, bursts that end behind the list, and sums that leave the range of int.
func TestLossesInRefusesOtherBursts(t *testing.T) {
	far := []int{math.MinInt, math.MinInt + 1, -1 << 62, -61, -60, -2, -1, 61, 62, 120, 1 << 62, 1<<62 + 30, math.MaxInt - 60, math.MaxInt - 1, math.MaxInt}
	eachShape(func(long, lines int) {
		for _, a := range far {
			for _, b := range append(numbersFrom(0, maxMix+1), far...) {
				refuseLosses(t, long, lines, a, b)
				refuseLosses(t, long, lines, b, a)
			}
			refuseLosses(t, long, lines, a, -a)
			refuseLosses(t, long, lines, a, long-a)
		}
		for from := range maxMix + 1 {
			for many := max(0, long-from+1); many <= maxMix+1; many++ {
				refuseLosses(t, long, lines, from, many)
			}
		}
	})
}

func TestMendLinesRefusesOtherNumbersOfParities(t *testing.T) {
	eachShape(func(long, lines int) {
		for _, count := range []int{0, 1, lines - 1, lines + 1, 2 * lines, maxMixLines, maxMixLines + 1, long, maxMix} {
			if count == lines {
				continue
			}
			for _, lost := range lostOneEach(long, lines) {
				refuseMending(t, mixedValues(long, 71), lines, make([]int, count), lost)
			}
		}
	})
}

// The invalid parity may be that of a line with a lost value or of another one.
func TestMendLinesRefusesInvalidParities(t *testing.T) {
	eachShape(func(long, lines int) {
		for line := range lines {
			for _, value := range badValues {
				parity := mixedValues(lines, 72)
				parity[line] = value
				refuseMending(t, mixedValues(long, 72), lines, parity, nil)
				if long > 0 {
					refuseMending(t, mixedValues(long, 72), lines, parity, []int{0})
					refuseMending(t, mixedValues(long, 72), lines, parity, []int{long - 1})
				}
			}
		}
	})
}

func TestMendLinesRefusesInvalidIndexes(t *testing.T) {
	eachShape(func(long, lines int) {
		l, parity := mixedValues(long, 73), mixedValues(lines, 73)
		for _, k := range []int{math.MinInt, math.MinInt + 1, -61, -lines, -2, -1, long, long + 1, long + lines, maxMix, maxMix + 1, 1 << 32, math.MaxInt - 1, math.MaxInt} {
			if k >= 0 && k < long {
				continue
			}
			refuseMending(t, l, lines, parity, []int{k})
			if long > 0 {
				refuseMending(t, l, lines, parity, []int{0, k})
				refuseMending(t, l, lines, parity, []int{k, long - 1})
			}
		}
	})
}

// An index twice, decreasing indexes, and two increasing ones in one line.
func TestMendLinesRefusesOtherPairs(t *testing.T) {
	eachShape(func(long, lines int) {
		l, parity := mixedValues(long, 74), mixedValues(lines, 74)
		for a := range long {
			for b := range long {
				lost := []int{a, b}
				if a >= b || a*lines/long == b*lines/long {
					refuseMending(t, l, lines, parity, lost)
				} else if got, ok := impl.MendLines(l, lines, parity, lost); !ok || !slices.Equal(got, mendIn(l, lines, parity, lost)) {
					t.Fatal(l, lines, parity, lost, got, ok)
				}
			}
		}
		if long > 0 {
			refuseMending(t, l, lines, parity, slices.Repeat([]int{long - 1}, 1000))
			refuseMending(t, l, lines, parity, numbersFrom(0, 1000))
		}
	})
}

// callMix calls every function of the chapter that takes a list and gathers what they return.
func callMix(l []int, lines int, parity []int, lost []int) [][]int {
	var all [][]int
	for _, call := range []func([]int, int) ([]int, bool){
		impl.MixBy, impl.UnmixBy, impl.ParityFor,
		func(l []int, lines int) ([]int, bool) { return impl.MendLines(l, lines, parity, lost) },
	} {
		result, ok := call(l, lines)
		all = append(all, result, []int{asNumber(ok)})
	}
	return all
}

// eachMending gives valid arguments and invalid ones.
func eachMending(f func(l []int, lines int, parity []int, lost []int)) {
	eachShape(func(long, lines int) {
		for _, lost := range lostOneEach(long, lines) {
			f(mixedValues(long, 75), lines, mixedValues(lines, 75), lost)
		}
	})
	for _, lines := range append([]int{1, 2, 3, 10}, badMixLines...) {
		for _, l := range [][]int{nil, {}, {0}, {1, 2, 3, 4, 5, 6}, {1, 2, -1, 4, 5, 6}, {1, 2, 3, 4, 5, 256}, make([]int, 61), make([]int, 70), {math.MinInt, math.MaxInt}} {
			for _, parity := range [][]int{nil, {0}, {0, 7}, {0, -1}, {0, 256}, {1, 2, 3}, {math.MinInt, math.MaxInt}, make([]int, 10), make([]int, 11)} {
				for _, lost := range [][]int{nil, {}, {0}, {0, 3}, {3, 0}, {0, 1}, {2, 2}, {-1}, {6}, {math.MinInt, math.MaxInt}, numbersFrom(0, 61)} {
					f(l, lines, parity, lost)
				}
			}
		}
	}
}

// Promise 19: the lists are neither changed nor read behind their length.
func TestMixedListsAreLeftAlone(t *testing.T) {
	eachMending(func(l []int, lines int, parity []int, lost []int) {
		list, allList := withTail(l)
		sums, allSums := withTail(parity)
		indexes, allIndexes := withTail(lost)
		listBefore, sumsBefore, indexesBefore := slices.Clone(allList), slices.Clone(allSums), slices.Clone(allIndexes)
		got := callMix(list, lines, sums, indexes)
		if !slices.Equal(allList, listBefore) || !slices.Equal(allSums, sumsBefore) || !slices.Equal(allIndexes, indexesBefore) {
			t.Fatal("changed", l, lines, parity, lost, allList, allSums, allIndexes)
		}
		want := callMix(slices.Clip(slices.Clone(l)), lines, slices.Clip(slices.Clone(parity)), slices.Clip(slices.Clone(lost)))
		if !slices.EqualFunc(got, want, slices.Equal) {
			t.Fatal("read behind the length", l, lines, parity, lost, got, want)
		}
	})
}

// Lists of one line or of lines of one value are their own interleaved lists, and lists without a lost value their own mended ones, so that a result could be the argument itself.
func TestMixesReturnNewMemory(t *testing.T) {
	eachShape(func(long, lines int) {
		for _, lost := range lostOneEach(long, lines) {
			l, parity := mixedValues(long, 76), mixedValues(lines, 76)
			lists := [][]int{l, parity, lost}
			before := [][]int{slices.Clone(l), slices.Clone(parity), slices.Clone(lost)}
			for name, call := range []func() ([]int, bool){
				func() ([]int, bool) { return impl.MixBy(l, lines) },
				func() ([]int, bool) { return impl.UnmixBy(l, lines) },
				func() ([]int, bool) { return impl.ParityFor(l, lines) },
				func() ([]int, bool) { return impl.MendLines(l, lines, parity, lost) },
				func() ([]int, bool) { return impl.LossesIn(long, lines, long/2, long/3) },
			} {
				first, _ := call()
				want := slices.Clone(first)
				second, _ := call()
				overwrite(first)
				third, ok := call()
				if !ok || !slices.Equal(second, want) || !slices.Equal(third, want) || !slices.EqualFunc(lists, before, slices.Equal) {
					t.Fatal(name, long, lines, lost, lists, second, third, want)
				}
			}
		}
	})
}
