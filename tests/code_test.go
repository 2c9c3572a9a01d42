package tests

import (
	"math"
	"math/bits"
	"slices"
	"testing"

	"loop.example/g00647/impl"
)

const widestCode = 10

// hamming corrects one error in 7 bits; longHamming, with a parity bit, is its own dual.
var (
	hamming     = impl.Code{Wide: 7, Rows: []int{0b0000111, 0b0011001, 0b0101010, 0b1001011}}
	longHamming = impl.Code{Wide: 8, Rows: []int{0b00001111, 0b00110011, 0b01010101, 0b11111111}}
)

// mixedCode adds mixed rows that are not yet in the span until there are count of them.
func mixedCode(wide int, count int, seed uint64) impl.Code {
	c := impl.Code{Wide: wide}
	span := []int{0}
	for _, row := range append(mixedRows(wide, 200, seed), unitRows(wide)...) {
		if len(c.Rows) < count && !slices.Contains(span, row) {
			c.Rows = append(c.Rows, row)
			for _, x := range slices.Clone(span) {
				span = append(span, x^row)
			}
		}
	}
	return c
}

// isIndependent tries all sets of rows: no two of them may have the same sum.
func isIndependent(wide int, rows []int) bool {
	return len(spanIn(leastSets(wide, rows))) == 1<<len(rows)
}

// eachList gives every list of one to four rows, independent or not, of the widths 1 to 3.
func eachList(f func(wide int, rows []int)) {
	for wide := 1; wide <= 3; wide++ {
		lists := [][]int{{}}
		for range 4 {
			var longer [][]int
			for _, l := range lists {
				for row := range 1 << wide {
					longer = append(longer, append(slices.Clone(l), row))
				}
			}
			for _, l := range longer {
				f(wide, l)
			}
			lists = longer
		}
	}
}

// eachCode gives every code of the widths 1 to 3, and of every width those with one row, with Wide rows and mixed ones.
func eachCode(f func(c impl.Code)) {
	eachList(func(wide int, rows []int) {
		if isIndependent(wide, rows) {
			f(impl.Code{Wide: wide, Rows: rows})
		}
	})
	f(hamming)
	f(longHamming)
	for wide := 1; wide <= widestCode; wide++ {
		top := 1<<wide - 1
		for _, row := range []int{1, 1 << (wide - 1), top} {
			f(impl.Code{Wide: wide, Rows: []int{row}})
		}
		f(impl.Code{Wide: wide, Rows: unitRows(wide)})
		for count := 1; count <= wide; count++ {
			f(mixedCode(wide, count, uint64(wide*100+count)))
		}
	}
}

// wordsIn lists the codeword of each message, from the words of the document alone.
func wordsIn(c impl.Code) []int {
	words := make([]int, 1<<len(c.Rows))
	for message := range words {
		for _, k := range indexesOf(message) {
			words[message] ^= c.Rows[k]
		}
	}
	return words
}

func weightIn(word int) int {
	return bits.OnesCount(uint(word))
}

func leastWeightIn(c impl.Code) int {
	least := c.Wide
	for _, word := range wordsIn(c)[1:] {
		least = min(least, weightIn(word))
	}
	return least
}

// nearestIn goes through the codewords in increasing order.
func nearestIn(c impl.Code, word int) (int, int) {
	words := wordsIn(c)
	slices.Sort(words)
	best := words[0]
	for _, w := range words {
		if weightIn(w^word) < weightIn(best^word) {
			best = w
		}
	}
	return best, weightIn(best ^ word)
}

func TestKnownCodes(t *testing.T) {
	for _, k := range []struct {
		code   impl.Code
		checks []int
		weight int
	}{
		{impl.Code{Wide: 3, Rows: []int{3, 6}}, []int{7}, 2},
		{impl.Code{Wide: 1, Rows: []int{1}}, nil, 1},
		{impl.Code{Wide: 2, Rows: []int{3}}, []int{3}, 2},
		{impl.Code{Wide: 3, Rows: []int{7}}, []int{5, 3}, 3},
		{impl.Code{Wide: 3, Rows: []int{7, 2, 4}}, nil, 1},
		{impl.Code{Wide: 4, Rows: []int{4}}, []int{8, 2, 1}, 1},
		{impl.Code{Wide: 10, Rows: []int{1023}}, []int{513, 257, 129, 65, 33, 17, 9, 5, 3}, 10},
		{impl.Code{Wide: 10, Rows: []int{513, 257, 129, 65, 33, 17, 9, 5, 3}}, []int{1023}, 2},
		{impl.Code{Wide: 10, Rows: unitRows(10)}, nil, 1},
		{hamming, []int{0b1001011, 0b0101101, 0b0011110}, 3},
		{longHamming, []int{0b10010110, 0b01010101, 0b00110011, 0b00001111}, 4},
	} {
		if !impl.GoodCode(k.code) {
			t.Error("GoodCode", k.code)
		}
		if l, ok := impl.ChecksOf(k.code); !ok || !slices.Equal(l, k.checks) {
			t.Error("ChecksOf", k.code, l, ok)
		}
		if n, ok := impl.LeastWeight(k.code); !ok || n != k.weight {
			t.Error("LeastWeight", k.code, n, ok)
		}
		d, ok := impl.DualOf(k.code)
		if !slices.Equal(d.Rows, k.checks) || ok != (len(k.checks) > 0) || ok && d.Wide != k.code.Wide || !ok && d.Wide != 0 {
			t.Error("DualOf", k.code, d, ok)
		}
	}
}

func TestGoodCode(t *testing.T) {
	eachList(func(wide int, rows []int) {
		if good := impl.GoodCode(impl.Code{Wide: wide, Rows: rows}); good != isIndependent(wide, rows) {
			t.Fatal(wide, rows, good)
		}
	})
	eachCode(func(c impl.Code) {
		if !impl.GoodCode(c) {
			t.Fatal(c)
		}
	})
}

func TestWordFor(t *testing.T) {
	eachCode(func(c impl.Code) {
		for message, word := range wordsIn(c) {
			if n, ok := impl.WordFor(c, message); n != word || !ok {
				t.Fatal(c, message, n, ok)
			}
		}
	})
}

func TestBitsFrom(t *testing.T) {
	eachCode(func(c impl.Code) {
		words := wordsIn(c)
		for word := range 1 << c.Wide {
			message := slices.Index(words, word)
			n, ok := impl.BitsFrom(c, word)
			if message < 0 && (n != 0 || ok) || message >= 0 && (n != message || !ok) {
				t.Fatal(c, word, n, ok)
			}
		}
	})
}

func TestChecksOf(t *testing.T) {
	eachCode(func(c impl.Code) {
		checks, ok := impl.ChecksOf(c)
		if !ok || len(checks) != c.Wide-len(c.Rows) || !isReduced(checks) {
			t.Fatal(c, checks, ok)
		}
		if !slices.Equal(spanIn(leastSets(c.Wide, checks)), orthogonalTo(c.Wide, c.Rows)) {
			t.Fatal(c, checks)
		}
	})
}

// Promise 3, first half.
func TestSyndromeIsZeroExactlyForCodewords(t *testing.T) {
	eachCode(func(c impl.Code) {
		isWord := make([]bool, 1<<c.Wide)
		for _, word := range wordsIn(c) {
			isWord[word] = true
		}
		for word := range isWord {
			if s, ok := impl.SyndromeOf(c, word); !ok || (s == 0) != isWord[word] {
				t.Fatal(c, word, s, ok)
			}
		}
	})
}

func TestSyndromeOf(t *testing.T) {
	eachCode(func(c impl.Code) {
		checks, _ := impl.ChecksOf(c)
		for word := range 1 << c.Wide {
			want := 0
			for k, check := range checks {
				want += weightIn(word&check) % 2 << k
			}
			if s, ok := impl.SyndromeOf(c, word); s != want || !ok {
				t.Fatal(c, word, s, ok)
			}
		}
	})
	for word, want := range []int{0, 3, 2, 1, 1, 2, 3, 0} {
		// The checks are 5 and 3, so that their indexes matter.
		if s, ok := impl.SyndromeOf(impl.Code{Wide: 3, Rows: []int{7}}, word); s != want || !ok {
			t.Error(word, s, ok)
		}
	}
}

func TestLeastWeight(t *testing.T) {
	eachCode(func(c impl.Code) {
		if n, ok := impl.LeastWeight(c); n != leastWeightIn(c) || !ok {
			t.Fatal(c, n, ok)
		}
	})
}

// Promise 3, second half.
func TestNearestCorrectsErrors(t *testing.T) {
	corrected := 0
	eachCode(func(c impl.Code) {
		least := leastWeightIn(c)
		for _, word := range wordsIn(c) {
			for wrong := range 1 << c.Wide {
				if 2*weightIn(wrong) >= least {
					continue
				}
				near, far, ok := impl.Nearest(c, word^wrong)
				if near != word || far != weightIn(wrong) || !ok {
					t.Fatal(c, word, wrong, near, far, ok)
				}
				if wrong != 0 {
					corrected++
				}
			}
		}
	})
	if corrected == 0 {
		t.Error("no code with an error to correct")
	}
}

func TestNearest(t *testing.T) {
	eachCode(func(c impl.Code) {
		for word := range 1 << c.Wide {
			near, far := nearestIn(c, word)
			if n, d, ok := impl.Nearest(c, word); n != near || d != far || !ok {
				t.Fatal(c, word, n, d, ok)
			}
		}
	})
}

// The codeword of a greater message, or of a later row, may be the numerically least.
func TestNearestReturnsTheLeastOfEquallyNear(t *testing.T) {
	for _, k := range []struct {
		code            impl.Code
		word, near, far int
	}{
		{impl.Code{Wide: 3, Rows: []int{3, 6}}, 7, 3, 1},
		{impl.Code{Wide: 3, Rows: []int{6, 3}}, 7, 3, 1},
		{impl.Code{Wide: 3, Rows: []int{6, 5}}, 7, 3, 1},
		{impl.Code{Wide: 3, Rows: []int{6, 5}}, 1, 0, 1},
		{impl.Code{Wide: 2, Rows: []int{3}}, 1, 0, 1},
		{impl.Code{Wide: 2, Rows: []int{3}}, 2, 0, 1},
		{impl.Code{Wide: 4, Rows: []int{15}}, 3, 0, 2},
		{impl.Code{Wide: 4, Rows: []int{15}}, 12, 0, 2},
		{impl.Code{Wide: 4, Rows: []int{12, 3}}, 5, 0, 2},
		{impl.Code{Wide: 4, Rows: []int{12, 3}}, 13, 12, 1},
		{impl.Code{Wide: 4, Rows: []int{12, 10}}, 14, 6, 1},
		{impl.Code{Wide: 10, Rows: []int{1023}}, 31, 0, 5},
		{impl.Code{Wide: 10, Rows: []int{1023}}, 992, 0, 5},
		{longHamming, 3, 0, 2},
	} {
		if n, d, ok := impl.Nearest(k.code, k.word); n != k.near || d != k.far || !ok {
			t.Error(k.code, k.word, n, d, ok)
		}
	}
}

func TestZeroWordBelongsToEveryCode(t *testing.T) {
	eachCode(func(c impl.Code) {
		if n, ok := impl.WordFor(c, 0); n != 0 || !ok {
			t.Fatal("WordFor", c, n, ok)
		}
		if n, ok := impl.BitsFrom(c, 0); n != 0 || !ok {
			t.Fatal("BitsFrom", c, n, ok)
		}
		if n, ok := impl.SyndromeOf(c, 0); n != 0 || !ok {
			t.Fatal("SyndromeOf", c, n, ok)
		}
		if n, d, ok := impl.Nearest(c, 0); n != 0 || d != 0 || !ok {
			t.Fatal("Nearest", c, n, d, ok)
		}
	})
}

func TestDualOf(t *testing.T) {
	eachCode(func(c impl.Code) {
		d, ok := impl.DualOf(c)
		if len(c.Rows) == c.Wide {
			if d.Wide != 0 || len(d.Rows) != 0 || ok {
				t.Fatal(c, d, ok)
			}
			return
		}
		checks, _ := impl.ChecksOf(c)
		if !ok || d.Wide != c.Wide || !slices.Equal(d.Rows, checks) || !impl.GoodCode(d) {
			t.Fatal(c, d, ok)
		}
		back, ok := impl.DualOf(d)
		steps, _ := impl.StepsOf(c.Wide, c.Rows)
		if !ok || back.Wide != c.Wide || !slices.Equal(back.Rows, steps) {
			t.Fatal(c, d, back, ok)
		}
	})
}

// refuseCode checks every function of the chapter with messages and words that valid codes take.
func refuseCode(t *testing.T, c impl.Code) {
	t.Helper()
	if impl.GoodCode(c) {
		t.Error("GoodCode", c)
	}
	if l, ok := impl.ChecksOf(c); len(l) != 0 || ok {
		t.Error("ChecksOf", c, l, ok)
	}
	if n, ok := impl.LeastWeight(c); n != 0 || ok {
		t.Error("LeastWeight", c, n, ok)
	}
	if d, ok := impl.DualOf(c); d.Wide != 0 || len(d.Rows) != 0 || ok {
		t.Error("DualOf", c, d, ok)
	}
	for _, row := range []int{0, 1} {
		if n, ok := impl.WordFor(c, row); n != 0 || ok {
			t.Error("WordFor", c, row, n, ok)
		}
		refuseWord(t, c, row)
	}
}

func refuseWord(t *testing.T, c impl.Code, word int) {
	t.Helper()
	if n, ok := impl.SyndromeOf(c, word); n != 0 || ok {
		t.Error("SyndromeOf", c, word, n, ok)
	}
	if n, d, ok := impl.Nearest(c, word); n != 0 || d != 0 || ok {
		t.Error("Nearest", c, word, n, d, ok)
	}
	if n, ok := impl.BitsFrom(c, word); n != 0 || ok {
		t.Error("BitsFrom", c, word, n, ok)
	}
}

func TestCodesRefuseInvalidWidths(t *testing.T) {
	for _, wide := range append([]int{11, 12, 15, impl.MaxBits}, badWidths...) {
		for _, rows := range [][]int{nil, {}, {0}, {1}, {-1}, {1, 2}, unitRows(10), unitRows(11), {1024}} {
			refuseCode(t, impl.Code{Wide: wide, Rows: rows})
		}
	}
	refuseCode(t, impl.Code{})
}

func TestCodesRefuseInvalidRows(t *testing.T) {
	for wide := 1; wide <= widestCode; wide++ {
		for _, row := range badRows(wide) {
			for _, rows := range [][]int{{row}, {row, 1}, {1, row}, append(unitRows(wide), row), append(unitRows(wide)[1:], row)} {
				refuseCode(t, impl.Code{Wide: wide, Rows: rows})
			}
		}
	}
}

func TestCodesRefuseDependentRows(t *testing.T) {
	for wide := 1; wide <= widestCode; wide++ {
		top := 1<<wide - 1
		units := unitRows(wide)
		dependent := [][]int{
			nil, {}, {0}, {0, 0}, {1, 0}, {0, top}, {1, 1}, {top, top}, {1, top, 1}, {1, top, 1 ^ top},
			append(slices.Clone(units), 0), append(slices.Clone(units), top), append(slices.Clone(units), units...),
			append(slices.Clone(units[1:]), 0), mixedRows(wide, wide+1, 1), mixedRows(wide, maxListed, 2),
			make([]int, maxListed), make([]int, maxListed+1), manyRows(wide, 100),
		}
		for _, rows := range dependent {
			refuseCode(t, impl.Code{Wide: wide, Rows: rows})
		}
		if wide > 2 {
			refuseCode(t, impl.Code{Wide: wide, Rows: append(slices.Clone(units[:wide-1]), 1<<(wide-1)-1)})
		}
	}
}

func TestCodesRefuseInvalidWordsAndMessages(t *testing.T) {
	eachCode(func(c impl.Code) {
		for _, word := range badRows(c.Wide) {
			refuseWord(t, c, word)
		}
		// With fewer rows than Wide, these messages are valid words all the same.
		for _, message := range badRows(len(c.Rows)) {
			if n, ok := impl.WordFor(c, message); n != 0 || ok {
				t.Error("WordFor", c, message, n, ok)
			}
		}
	})
}

// callCode calls every function of the chapter and gathers what they return.
func callCode(c impl.Code, row int) [][]int {
	var all [][]int
	keep := func(ok bool, l ...int) {
		all = append(all, slices.Clone(l), []int{asNumber(ok)})
	}
	keep(impl.GoodCode(c))
	checks, ok := impl.ChecksOf(c)
	keep(ok, checks...)
	weight, ok := impl.LeastWeight(c)
	keep(ok, weight)
	near, far, ok := impl.Nearest(c, row)
	keep(ok, near, far)
	dual, ok := impl.DualOf(c)
	keep(ok, append([]int{dual.Wide}, dual.Rows...)...)
	for _, call := range []func(impl.Code, int) (int, bool){impl.WordFor, impl.SyndromeOf, impl.BitsFrom} {
		n, ok := call(c, row)
		keep(ok, n)
	}
	return all
}

// Promise 19: the rows of a code are neither changed nor read behind the length of their list.
func TestCodesAreLeftAlone(t *testing.T) {
	invalid := [][]int{{-1}, {16}, {3, 1, 16}, {1, 2, 3}, make([]int, maxListed+1), {math.MinInt, math.MaxInt}}
	valid := [][]int{{1}, {15}, {3, 6}, {6, 3, 12}, {15, 7, 3, 1}, {8, 4, 2, 1}, {9, 5, 3}}
	for _, wide := range []int{-1, 0, 3, 4, widestCode, widestCode + 1} {
		for _, l := range slices.Concat(edgeTables(4), invalid, valid) {
			for _, row := range []int{math.MinInt, -1, 0, 1, 3, 7, 15, 16, math.MaxInt} {
				rows, whole := withTail(l)
				before := slices.Clone(whole)
				got := callCode(impl.Code{Wide: wide, Rows: rows}, row)
				if !slices.Equal(whole, before) {
					t.Fatal("changed", wide, l, row, whole)
				}
				clipped := impl.Code{Wide: wide, Rows: slices.Clip(slices.Clone(l))}
				if !slices.EqualFunc(got, callCode(clipped, row), slices.Equal) {
					t.Fatal("read behind the length", wide, l, row, got)
				}
			}
		}
	}
}

// The codes are their own duals, so that a result could be the argument itself.
func TestCodesReturnNewMemory(t *testing.T) {
	for _, c := range []impl.Code{
		{Wide: 2, Rows: []int{3}},
		{Wide: 4, Rows: []int{12, 3}},
		{Wide: 8, Rows: []int{0b10010110, 0b01010101, 0b00110011, 0b00001111}},
	} {
		rows := slices.Clone(c.Rows)
		checks, _ := impl.ChecksOf(c)
		dual, _ := impl.DualOf(c)
		if !slices.Equal(checks, rows) || !slices.Equal(dual.Rows, rows) {
			t.Fatal("not its own dual", c, checks, dual)
		}
		for k := range rows {
			checks[k], dual.Rows[k] = -1, -2
		}
		if !slices.Equal(c.Rows, rows) || slices.Contains(checks, -2) {
			t.Error("shared", c, checks, dual)
		}
		again, ok := impl.ChecksOf(c)
		if !ok || !slices.Equal(again, rows) {
			t.Error("ChecksOf", c, again, ok)
		}
		if d, ok := impl.DualOf(c); !ok || !slices.Equal(d.Rows, rows) {
			t.Error("DualOf", c, d, ok)
		}
	}
}
