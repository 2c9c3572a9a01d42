package tests

import (
	"math"
	"math/bits"
	"slices"
	"testing"

	"loop.example/g00647/impl"
)

// badWidths lie just outside 1..MaxBits and at the ends of int, where a shift or a table lookup would fail.
var badWidths = []int{math.MinInt, -64, -16, -1, 0, impl.MaxBits + 1, 20, 63, 64, math.MaxInt}

func badRows(wide int) []int {
	bound := 1 << wide
	return []int{math.MinInt, -bound, -2, -1, bound, bound + 1, 2*bound - 1, 2 * bound, math.MaxInt}
}

// someRows holds every row of a narrow width, and of a wide one those whose bits lie at the ends or alternate.
func someRows(wide int) []int {
	top := 1<<wide - 1
	var rows []int
	if wide <= 6 {
		for row := 0; row <= top; row++ {
			rows = append(rows, row)
		}
		return rows
	}
	for k := range wide {
		rows = append(rows, 1<<k, top^1<<k, 1<<k-1)
	}
	return append(rows, 0, top, 0x5555&top, 0xaaaa&top, 0x1234&top, 0xfedc&top)
}

func eachPair(f func(wide, a, b int)) {
	for wide := 1; wide <= impl.MaxBits; wide++ {
		rows := someRows(wide)
		for _, a := range rows {
			for _, b := range rows {
				f(wide, a, b)
			}
		}
	}
}

func eachRow(f func(wide, row int)) {
	for wide := 1; wide <= impl.MaxBits; wide++ {
		for row := range 1 << wide {
			f(wide, row)
		}
	}
}

// eachBadRow gives every invalid pair of a width and a row, the row 0 of an invalid width among them.
func eachBadRow(f func(wide, row int)) {
	for _, wide := range badWidths {
		for _, row := range []int{math.MinInt, -1, 0, 1, math.MaxInt} {
			f(wide, row)
		}
	}
	for wide := 1; wide <= impl.MaxBits; wide++ {
		for _, row := range badRows(wide) {
			f(wide, row)
		}
	}
}

func indexesOf(row int) []int {
	var l []int
	for k := range 64 {
		if row>>k&1 == 1 {
			l = append(l, k)
		}
	}
	return l
}

func TestMaxBits(t *testing.T) {
	if impl.MaxBits != 16 {
		t.Fatal(impl.MaxBits)
	}
}

func TestGoodRow(t *testing.T) {
	eachRow(func(wide, row int) {
		if !impl.GoodRow(wide, row) {
			t.Fatal(wide, row)
		}
	})
	eachBadRow(func(wide, row int) {
		if impl.GoodRow(wide, row) {
			t.Error(wide, row)
		}
	})
}

func TestAddRows(t *testing.T) {
	eachPair(func(wide, a, b int) {
		if n, ok := impl.AddRows(wide, a, b); n != a^b || !ok {
			t.Fatal(wide, a, b, n, ok)
		}
	})
}

// Promise 1, first half.
func TestAddingTwiceCancels(t *testing.T) {
	eachPair(func(wide, a, b int) {
		once, ok := impl.AddRows(wide, a, b)
		if !ok || !impl.GoodRow(wide, once) {
			t.Fatal(wide, a, b, once, ok)
		}
		if n, ok := impl.AddRows(wide, once, b); n != a || !ok {
			t.Fatal(wide, a, b, n, ok)
		}
	})
	eachRow(func(wide, row int) {
		if n, ok := impl.AddRows(wide, row, row); n != 0 || !ok {
			t.Fatal(wide, row, n, ok)
		}
	})
}

// Promise 1, second half.
func TestRowIsRecoveredFromItsBits(t *testing.T) {
	eachRow(func(wide, row int) {
		l, ok := impl.BitsIn(wide, row)
		if !ok || !slices.Equal(l, indexesOf(row)) {
			t.Fatal(wide, row, l, ok)
		}
		if n, ok := impl.RowOf(wide, l); n != row || !ok {
			t.Fatal(wide, row, n, ok)
		}
	})
}

func TestWeightOf(t *testing.T) {
	eachRow(func(wide, row int) {
		if n, ok := impl.WeightOf(wide, row); n != bits.OnesCount(uint(row)) || !ok {
			t.Fatal(wide, row, n, ok)
		}
	})
}

func TestDotOf(t *testing.T) {
	eachPair(func(wide, a, b int) {
		if n, ok := impl.DotOf(wide, a, b); n != bits.OnesCount(uint(a&b))%2 || !ok {
			t.Fatal(wide, a, b, n, ok)
		}
	})
}

func TestFarApart(t *testing.T) {
	eachPair(func(wide, a, b int) {
		if n, ok := impl.FarApart(wide, a, b); n != bits.OnesCount(uint(a^b)) || !ok {
			t.Fatal(wide, a, b, n, ok)
		}
	})
}

func TestFunctionsOfOneRowRefuse(t *testing.T) {
	eachBadRow(func(wide, row int) {
		if n, ok := impl.WeightOf(wide, row); n != 0 || ok {
			t.Error("WeightOf", wide, row, n, ok)
		}
		if l, ok := impl.BitsIn(wide, row); len(l) != 0 || ok {
			t.Error("BitsIn", wide, row, l, ok)
		}
	})
}

func TestFunctionsOfTwoRowsRefuse(t *testing.T) {
	functions := []struct {
		name string
		call func(int, int, int) (int, bool)
	}{{"AddRows", impl.AddRows}, {"DotOf", impl.DotOf}, {"FarApart", impl.FarApart}}
	for _, f := range functions {
		eachBadRow(func(wide, row int) {
			for _, pair := range [][2]int{{row, 0}, {row, 1}, {0, row}, {1, row}, {row, row}} {
				if n, ok := f.call(wide, pair[0], pair[1]); n != 0 || ok {
					t.Error(f.name, wide, pair, n, ok)
				}
			}
		})
	}
}

func TestRowOf(t *testing.T) {
	for wide := 1; wide <= impl.MaxBits; wide++ {
		for _, empty := range [][]int{nil, {}} {
			if n, ok := impl.RowOf(wide, empty); n != 0 || !ok {
				t.Error(wide, n, ok)
			}
		}
		var all []int
		for k := range wide {
			all = append(all, k)
			if n, ok := impl.RowOf(wide, []int{k}); n != 1<<k || !ok {
				t.Error(wide, k, n, ok)
			}
		}
		if n, ok := impl.RowOf(wide, all); n != 1<<wide-1 || !ok {
			t.Error(wide, n, ok)
		}
	}
}

func TestRowOfRefuses(t *testing.T) {
	refuse := func(wide int, l []int) {
		t.Helper()
		if n, ok := impl.RowOf(wide, l); n != 0 || ok {
			t.Error(wide, l, n, ok)
		}
	}
	for _, wide := range badWidths {
		refuse(wide, nil)
		refuse(wide, []int{0})
		refuse(wide, []int{-1})
	}
	for wide := 1; wide <= impl.MaxBits; wide++ {
		for _, k := range []int{math.MinInt, -1, wide, wide + 1, impl.MaxBits, impl.MaxBits + 1, 64, math.MaxInt} {
			refuse(wide, []int{k})
			refuse(wide, []int{0, k})
			refuse(wide, []int{k, 0})
		}
		refuse(wide, []int{0, 0})
		refuse(wide, []int{wide - 1, wide - 1})
		refuse(wide, make([]int, 100))
	}
	for _, l := range [][]int{{3, 1}, {1, 0}, {0, 2, 1}, {0, 1, 1}, {1, 1, 2}, {0, 1, 2, 3, 2}, {0, 1, 2, 3, 4}} {
		refuse(4, l)
	}
}

// manyRows is a list of count rows of the width, with repeated rows.
func manyRows(wide int, count int) []int {
	rows := make([]int, count)
	for k := range rows {
		rows[k] = (k*7 + 3) % (1 << wide)
	}
	return rows
}

func TestSumRows(t *testing.T) {
	for wide := 1; wide <= impl.MaxBits; wide++ {
		for count := 0; count <= 8; count++ {
			rows := manyRows(wide, count)
			for set := range 1 << count {
				some := indexesOf(set)
				want := 0
				for _, k := range some {
					want ^= rows[k]
				}
				if n, ok := impl.SumRows(wide, rows, some); n != want || !ok {
					t.Fatal(wide, rows, some, n, ok)
				}
			}
		}
	}
}

func TestSumRowsEdges(t *testing.T) {
	for wide := 1; wide <= impl.MaxBits; wide++ {
		top := 1<<wide - 1
		if n, ok := impl.SumRows(wide, nil, nil); n != 0 || !ok {
			t.Error(wide, n, ok)
		}
		if n, ok := impl.SumRows(wide, []int{0, top}, []int{}); n != 0 || !ok {
			t.Error(wide, n, ok)
		}
		if n, ok := impl.SumRows(wide, []int{0, top}, []int{0, 1}); n != top || !ok {
			t.Error(wide, n, ok)
		}
		if n, ok := impl.SumRows(wide, []int{top, top}, []int{0, 1}); n != 0 || !ok {
			t.Error(wide, n, ok)
		}
		rows := make([]int, 20)
		rows[19] = top
		if n, ok := impl.SumRows(wide, rows, indexesOf(1<<20-1)); n != top || !ok {
			t.Error(wide, n, ok)
		}
	}
}

func TestSumRowsRefuses(t *testing.T) {
	refuse := func(wide int, rows []int, some []int) {
		t.Helper()
		if n, ok := impl.SumRows(wide, rows, some); n != 0 || ok {
			t.Error(wide, rows, some, n, ok)
		}
	}
	for _, wide := range badWidths {
		refuse(wide, nil, nil)
		refuse(wide, []int{1}, nil)
		refuse(wide, []int{0}, []int{0})
	}
	for wide := 1; wide <= impl.MaxBits; wide++ {
		for _, row := range badRows(wide) {
			// A row is invalid also where it is not among those that are added.
			for _, some := range [][]int{nil, {0}, {1}, {0, 1}} {
				refuse(wide, []int{row, 1}, some)
				refuse(wide, []int{1, row}, some)
			}
		}
		for _, count := range []int{21, 22, 100} {
			refuse(wide, make([]int, count), nil)
			refuse(wide, manyRows(wide, count), []int{0})
		}
		for _, k := range []int{math.MinInt, -1, 3, 4, 20, math.MaxInt} {
			refuse(wide, []int{1, 0, 1}, []int{k})
			refuse(wide, []int{1, 0, 1}, []int{0, k})
			refuse(wide, []int{1, 0, 1}, []int{k, 0})
		}
		refuse(wide, nil, []int{0})
	}
	for _, some := range [][]int{{0, 0}, {2, 2}, {1, 0}, {0, 2, 1}, {0, 1, 1}, {0, 0, 1}, {0, 1, 2, 3}} {
		refuse(4, []int{1, 2, 4}, some)
	}
}

// withTail returns a list with invalid elements behind its length, and the memory in which both lie.
func withTail(l []int) ([]int, []int) {
	whole := append(slices.Clone(l), -1, math.MaxInt, 0)
	return whole[:len(l)], whole
}

// Promise 19: neither the elements of a list nor those behind its length are changed, and the latter do not count.
func TestListsAreLeftAlone(t *testing.T) {
	for _, l := range [][]int{{}, {0}, {1, 3}, {0, 1, 2, 3}, {3, 1}, {2, 2}, {-1}, {0, 16}} {
		list, whole := withTail(l)
		before := slices.Clone(whole)
		n, ok := impl.RowOf(4, list)
		wantN, wantOk := impl.RowOf(4, slices.Clip(slices.Clone(l)))
		if n != wantN || ok != wantOk || !slices.Equal(whole, before) {
			t.Error("RowOf", l, n, ok, whole)
		}
		rows, wholeRows := withTail([]int{1, 2, 4, 15})
		beforeRows := slices.Clone(wholeRows)
		n, ok = impl.SumRows(4, rows, list)
		wantN, wantOk = impl.SumRows(4, []int{1, 2, 4, 15}, slices.Clip(slices.Clone(l)))
		if n != wantN || ok != wantOk || !slices.Equal(whole, before) || !slices.Equal(wholeRows, beforeRows) {
			t.Error("SumRows", l, n, ok, whole, wholeRows)
		}
	}
	full, _ := withTail(make([]int, 20))
	if n, ok := impl.SumRows(4, full, nil); n != 0 || !ok {
		t.Error("SumRows", n, ok)
	}
}

func TestBitsInReturnsNewMemory(t *testing.T) {
	for _, row := range []int{0, 1, 10, 1<<impl.MaxBits - 1} {
		first, _ := impl.BitsIn(impl.MaxBits, row)
		second, _ := impl.BitsIn(impl.MaxBits, row)
		for k := range first {
			first[k] = -1
		}
		if !slices.Equal(second, indexesOf(row)) {
			t.Error(row, second)
		}
		if third, ok := impl.BitsIn(impl.MaxBits, row); !ok || !slices.Equal(third, indexesOf(row)) {
			t.Error(row, third, ok)
		}
	}
}
