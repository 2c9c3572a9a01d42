package tests

import (
	"math"
	"math/bits"
	"slices"
	"testing"

	"loop.example/g00647/impl"
)

const maxListed = 20

// mixedRows is a list of count rows of the width without a pattern that elimination could profit from.
func mixedRows(wide int, count int, seed uint64) []int {
	rows := make([]int, count)
	for k := range rows {
		seed = seed*6364136223846793005 + 1442695040888963407
		rows[k] = int(seed>>33) & (1<<wide - 1)
	}
	return rows
}

// unitRows is the list of the rows 2^0 .. 2^(wide - 1).
func unitRows(wide int) []int {
	rows := make([]int, wide)
	for k := range rows {
		rows[k] = 1 << k
	}
	return rows
}

// edgeTables holds no rows, zero rows, equal rows and rows that depend on others.
func edgeTables(wide int) [][]int {
	top := 1<<wide - 1
	units := unitRows(wide)
	down := slices.Clone(units)
	slices.Reverse(down)
	var stairs []int
	for k := range wide {
		stairs = append(stairs, 1<<(k+1)-1)
	}
	return [][]int{
		nil, {}, {0}, {0, 0, 0}, {top}, {1, 1}, {top, top, top}, {0, top, 0, top, 1},
		{top, 1, top ^ 1}, {1, top, top ^ 1, 0}, make([]int, maxListed),
		units, down, stairs, append([]int{top}, units...),
	}
}

// eachTable gives every list of at most three narrow rows, the edge cases of every width and mixed lists of it.
func eachTable(f func(wide int, rows []int)) {
	for wide := 1; wide <= 3; wide++ {
		for a := range 1 << wide {
			f(wide, []int{a})
			for b := range 1 << wide {
				f(wide, []int{a, b})
				for c := range 1 << wide {
					f(wide, []int{a, b, c})
				}
			}
		}
	}
	for wide := 1; wide <= impl.MaxBits; wide++ {
		for _, rows := range edgeTables(wide) {
			f(wide, rows)
		}
		for count := 1; count <= 10; count++ {
			f(wide, mixedRows(wide, count, uint64(wide*100+count)))
		}
		f(wide, mixedRows(wide, wide, uint64(wide)))
		f(wide, mixedRows(wide, maxListed, uint64(wide)))
	}
}

// leastSets tries all sets of indexes: for each row of the width it holds the least set with that sum, or -1.
func leastSets(wide int, rows []int) []int {
	least := make([]int, 1<<wide)
	for row := range least {
		least[row] = -1
	}
	sums := make([]int, 1<<len(rows))
	for set := range sums {
		if set > 0 {
			sums[set] = sums[set&(set-1)] ^ rows[bits.TrailingZeros(uint(set))]
		}
		if least[sums[set]] < 0 {
			least[sums[set]] = set
		}
	}
	return least
}

func spanIn(least []int) []int {
	var span []int
	for row, set := range least {
		if set >= 0 {
			span = append(span, row)
		}
	}
	return span
}

func orthogonalTo(wide int, rows []int) []int {
	var all []int
	for x := range 1 << wide {
		if !slices.ContainsFunc(rows, func(row int) bool { return bits.OnesCount(uint(row&x))%2 == 1 }) {
			all = append(all, x)
		}
	}
	return all
}

// isReduced follows the words of the document: descending nonzero rows, each alone at its most significant bit.
func isReduced(steps []int) bool {
	for k, row := range steps {
		if row <= 0 || k > 0 && row >= steps[k-1] {
			return false
		}
		top := 1 << (bits.Len(uint(row)) - 1)
		for other, x := range steps {
			if other != k && x&top != 0 {
				return false
			}
		}
	}
	return true
}

// wantsOf holds every row of a narrow width, and of a wide one selected rows and some of the span.
func wantsOf(wide int, span []int) []int {
	if wide <= 8 {
		return rowsBelow(1 << wide)
	}
	wants := someRows(wide)
	for k := 0; k < len(span); k += 1 + len(span)/200 {
		wants = append(wants, span[k])
	}
	return wants
}

func rowsBelow(bound int) []int {
	rows := make([]int, bound)
	for k := range rows {
		rows[k] = k
	}
	return rows
}

func TestKnownTables(t *testing.T) {
	for _, c := range []struct {
		wide              int
		rows, steps, null []int
	}{
		{4, []int{3, 1, 2}, []int{2, 1}, []int{8, 4}},
		{1, nil, nil, []int{1}},
		{4, nil, nil, []int{8, 4, 2, 1}},
		{3, []int{0, 0}, nil, []int{4, 2, 1}},
		{1, []int{1}, []int{1}, nil},
		{1, []int{0}, nil, []int{1}},
		{3, []int{3, 6}, []int{5, 3}, []int{7}},
		{3, []int{7, 7}, []int{7}, []int{5, 3}},
		{4, []int{15, 7, 3, 1}, []int{8, 4, 2, 1}, nil},
		{4, []int{12, 10, 6}, []int{10, 6}, []int{14, 1}},
		{5, []int{16}, []int{16}, []int{8, 4, 2, 1}},
		{16, []int{65535, 32768}, []int{32768, 32767}, []int{16385, 8193, 4097, 2049, 1025, 513, 257, 129, 65, 33, 17, 9, 5, 3}},
	} {
		if l, ok := impl.StepsOf(c.wide, c.rows); !ok || !slices.Equal(l, c.steps) {
			t.Error("StepsOf", c.wide, c.rows, l, ok)
		}
		if n, ok := impl.RankOf(c.wide, c.rows); !ok || n != len(c.steps) {
			t.Error("RankOf", c.wide, c.rows, n, ok)
		}
		if l, ok := impl.NullOf(c.wide, c.rows); !ok || !slices.Equal(l, c.null) {
			t.Error("NullOf", c.wide, c.rows, l, ok)
		}
	}
}

// Promise 2, first half.
func TestStepsHaveTheSameSpan(t *testing.T) {
	eachTable(func(wide int, rows []int) {
		span := spanIn(leastSets(wide, rows))
		steps, ok := impl.StepsOf(wide, rows)
		if !ok || !isReduced(steps) || !slices.Equal(spanIn(leastSets(wide, steps)), span) {
			t.Fatal("StepsOf", wide, rows, steps, ok)
		}
		if n, ok := impl.RankOf(wide, rows); !ok || n != len(steps) || 1<<n != len(span) {
			t.Fatal("RankOf", wide, rows, n, ok)
		}
		if same, ok := impl.SameSpan(wide, rows, steps); !same || !ok {
			t.Fatal("SameSpan", wide, rows, steps, same, ok)
		}
	})
}

// Promise 2, second half: also that a row outside the span is not made, and that the list is the least one.
func TestEveryRowOfTheSpanIsMade(t *testing.T) {
	eachTable(func(wide int, rows []int) {
		least := leastSets(wide, rows)
		for _, want := range wantsOf(wide, spanIn(least)) {
			inSpan := least[want] >= 0
			if can, ok := impl.CanMake(wide, rows, want); can != inSpan || !ok {
				t.Fatal("CanMake", wide, rows, want, can, ok)
			}
			some, ok := impl.MakeBy(wide, rows, want)
			if !inSpan {
				if ok || len(some) != 0 {
					t.Fatal("MakeBy", wide, rows, want, some, ok)
				}
				continue
			}
			if !ok || !slices.Equal(some, indexesOf(least[want])) {
				t.Fatal("MakeBy", wide, rows, want, some, ok, indexesOf(least[want]))
			}
			if sum, ok := impl.SumRows(wide, rows, some); sum != want || !ok {
				t.Fatal("SumRows", wide, rows, some, sum, ok)
			}
		}
	})
}

func TestMakeByReturnsTheLeastList(t *testing.T) {
	for _, c := range []struct {
		rows []int
		want int
		some []int
	}{
		{[]int{3, 1, 2}, 2, []int{0, 1}},
		{[]int{3, 1, 2}, 0, nil},
		{nil, 0, nil},
		{[]int{0}, 0, nil},
		{[]int{5, 5}, 5, []int{0}},
		{[]int{5, 5}, 0, nil},
		{[]int{0, 5, 5, 5}, 5, []int{1}},
		{[]int{1, 2, 4, 8, 15}, 15, []int{0, 1, 2, 3}},
		{[]int{15, 8, 4, 2, 1}, 1, []int{0, 1, 2, 3}},
	} {
		if some, ok := impl.MakeBy(4, c.rows, c.want); !ok || !slices.Equal(some, c.some) {
			t.Error(c.rows, c.want, some, ok)
		}
	}
	last := make([]int, maxListed)
	last[maxListed-1] = 9
	if some, ok := impl.MakeBy(4, last, 9); !ok || !slices.Equal(some, []int{maxListed - 1}) {
		t.Error(last, some, ok)
	}
}

func TestNullOf(t *testing.T) {
	eachTable(func(wide int, rows []int) {
		null, ok := impl.NullOf(wide, rows)
		if !ok || !isReduced(null) || !slices.Equal(spanIn(leastSets(wide, null)), orthogonalTo(wide, rows)) {
			t.Fatal(wide, rows, null, ok)
		}
	})
}

func TestNullOfNoRows(t *testing.T) {
	for wide := 1; wide <= impl.MaxBits; wide++ {
		all := unitRows(wide)
		slices.Reverse(all)
		for _, rows := range [][]int{nil, {}, {0}} {
			if null, ok := impl.NullOf(wide, rows); !ok || !slices.Equal(null, all) {
				t.Error(wide, rows, null, ok)
			}
		}
		if null, ok := impl.NullOf(wide, all); !ok || len(null) != 0 {
			t.Error(wide, all, null, ok)
		}
	}
}

func TestSpanOf(t *testing.T) {
	eachTable(func(wide int, rows []int) {
		span, ok := impl.SpanOf(wide, rows)
		if wide > 8 {
			if ok || len(span) != 0 {
				t.Fatal(wide, rows, span, ok)
			}
			return
		}
		if !ok || !slices.Equal(span, spanIn(leastSets(wide, rows))) {
			t.Fatal(wide, rows, span, ok)
		}
	})
}

func TestSpanOfAtTheEdges(t *testing.T) {
	for _, c := range []struct {
		wide int
		rows []int
		span []int
	}{
		{1, nil, []int{0}},
		{1, []int{0}, []int{0}},
		{1, []int{1}, []int{0, 1}},
		{2, []int{3}, []int{0, 3}},
		{8, nil, []int{0}},
		{8, []int{255, 128}, []int{0, 127, 128, 255}},
		{8, unitRows(8), rowsBelow(256)},
	} {
		if span, ok := impl.SpanOf(c.wide, c.rows); !ok || !slices.Equal(span, c.span) {
			t.Error(c.wide, c.rows, span, ok)
		}
	}
}

func TestTurnRows(t *testing.T) {
	for wide := 1; wide <= impl.MaxBits; wide++ {
		for count := 1; count <= impl.MaxBits; count++ {
			rows := mixedRows(wide, count, uint64(wide*20+count))
			turned, ok := impl.TurnRows(wide, rows)
			if !ok || len(turned) != wide {
				t.Fatal(wide, rows, turned, ok)
			}
			for k, row := range turned {
				if row < 0 || row >= 1<<count {
					t.Fatal(wide, rows, turned)
				}
				for i := range rows {
					if row>>i&1 != rows[i]>>k&1 {
						t.Fatal(wide, rows, turned, k, i)
					}
				}
			}
			if back, ok := impl.TurnRows(count, turned); !ok || !slices.Equal(back, rows) {
				t.Fatal(wide, rows, turned, back, ok)
			}
		}
	}
}

func TestTurnRowsAtTheEdges(t *testing.T) {
	ones := slices.Repeat([]int{1}, impl.MaxBits)
	for _, c := range []struct {
		wide   int
		rows   []int
		turned []int
	}{
		{2, []int{1, 3}, []int{3, 2}},
		{1, []int{0}, []int{0}},
		{1, []int{1}, []int{1}},
		{4, []int{10}, []int{0, 1, 0, 1}},
		{1, ones, []int{65535}},
		{16, []int{65535}, ones},
		{16, unitRows(16), unitRows(16)},
		{2, slices.Repeat([]int{2}, impl.MaxBits), []int{0, 65535}},
	} {
		if turned, ok := impl.TurnRows(c.wide, c.rows); !ok || !slices.Equal(turned, c.turned) {
			t.Error(c.wide, c.rows, turned, ok)
		}
	}
}

func TestSameSpan(t *testing.T) {
	for wide := 1; wide <= impl.MaxBits; wide++ {
		tables := edgeTables(wide)
		for count := 1; count <= 4; count++ {
			tables = append(tables, mixedRows(wide, count, uint64(count)))
		}
		spans := make([][]int, len(tables))
		for k, rows := range tables {
			spans[k] = spanIn(leastSets(wide, rows))
		}
		for i, a := range tables {
			for k, b := range tables {
				if same, ok := impl.SameSpan(wide, a, b); same != slices.Equal(spans[i], spans[k]) || !ok {
					t.Fatal(wide, a, b, same, ok)
				}
			}
		}
	}
	// The same rank is not the same span.
	if same, ok := impl.SameSpan(4, []int{1, 2}, []int{1, 4}); same || !ok {
		t.Error(same, ok)
	}
	if same, ok := impl.SameSpan(4, []int{1, 2}, []int{1, 2, 4}); same || !ok {
		t.Error(same, ok)
	}
}

// refuseTable checks the functions of a list of rows, with a valid row as the one that is wanted.
func refuseTable(t *testing.T, wide int, rows []int) {
	t.Helper()
	for _, f := range []struct {
		name string
		call func(int, []int) ([]int, bool)
	}{{"StepsOf", impl.StepsOf}, {"NullOf", impl.NullOf}, {"SpanOf", impl.SpanOf}, {"TurnRows", impl.TurnRows}} {
		if l, ok := f.call(wide, rows); len(l) != 0 || ok {
			t.Error(f.name, wide, rows, l, ok)
		}
	}
	if n, ok := impl.RankOf(wide, rows); n != 0 || ok {
		t.Error("RankOf", wide, rows, n, ok)
	}
	for _, want := range []int{0, 1} {
		refuseWant(t, wide, rows, want)
	}
	for _, pair := range [][2][]int{{rows, nil}, {nil, rows}, {rows, rows}, {rows, {1}}, {{1}, rows}} {
		if same, ok := impl.SameSpan(wide, pair[0], pair[1]); same || ok {
			t.Error("SameSpan", wide, pair, same, ok)
		}
	}
}

func refuseWant(t *testing.T, wide int, rows []int, want int) {
	t.Helper()
	if can, ok := impl.CanMake(wide, rows, want); can || ok {
		t.Error("CanMake", wide, rows, want, can, ok)
	}
	if some, ok := impl.MakeBy(wide, rows, want); len(some) != 0 || ok {
		t.Error("MakeBy", wide, rows, want, some, ok)
	}
}

func TestTablesRefuseInvalidWidths(t *testing.T) {
	for _, wide := range badWidths {
		for _, rows := range [][]int{nil, {}, {0}, {1}, {-1}, {0, 1}, make([]int, maxListed)} {
			refuseTable(t, wide, rows)
		}
	}
	for _, wide := range []int{9, 10, impl.MaxBits} {
		for _, rows := range [][]int{nil, {0}, {1, 2}, {256}} {
			if span, ok := impl.SpanOf(wide, rows); len(span) != 0 || ok {
				t.Error("SpanOf", wide, rows, span, ok)
			}
		}
	}
}

func TestTablesRefuseInvalidRows(t *testing.T) {
	for wide := 1; wide <= impl.MaxBits; wide++ {
		for _, row := range badRows(wide) {
			refuseTable(t, wide, []int{row})
			refuseTable(t, wide, []int{row, 1})
			refuseTable(t, wide, []int{1, 0, row})
			refuseTable(t, wide, append(make([]int, maxListed-1), row))
			for _, rows := range [][]int{nil, {0}, {1}, unitRows(wide)} {
				refuseWant(t, wide, rows, row)
			}
		}
	}
}

func TestTablesRefuseTooManyRows(t *testing.T) {
	for wide := 1; wide <= impl.MaxBits; wide++ {
		for _, count := range []int{maxListed + 1, maxListed + 2, 64, 100} {
			refuseTable(t, wide, make([]int, count))
			refuseTable(t, wide, manyRows(wide, count))
		}
		for _, rows := range [][]int{nil, {}, make([]int, impl.MaxBits+1), manyRows(wide, 17), manyRows(wide, maxListed)} {
			if turned, ok := impl.TurnRows(wide, rows); len(turned) != 0 || ok {
				t.Error("TurnRows", wide, rows, turned, ok)
			}
		}
		if _, ok := impl.StepsOf(wide, manyRows(wide, maxListed)); !ok {
			t.Error("StepsOf", wide)
		}
	}
}

// callTable calls every function of the chapter and gathers what they return.
func callTable(wide int, rows []int, want int) [][]int {
	var all [][]int
	keep := func(l []int, ok bool) {
		all = append(all, slices.Clone(l), []int{asNumber(ok)})
	}
	keep(impl.StepsOf(wide, rows))
	keep(impl.MakeBy(wide, rows, want))
	keep(impl.NullOf(wide, rows))
	keep(impl.SpanOf(wide, rows))
	keep(impl.TurnRows(wide, rows))
	rank, ok := impl.RankOf(wide, rows)
	keep([]int{rank}, ok)
	can, ok := impl.CanMake(wide, rows, want)
	keep([]int{asNumber(can)}, ok)
	for _, pair := range [][2][]int{{rows, {1}}, {{1}, rows}, {rows, rows}} {
		same, ok := impl.SameSpan(wide, pair[0], pair[1])
		keep([]int{asNumber(same)}, ok)
	}
	return all
}

func asNumber(b bool) int {
	if b {
		return 1
	}
	return 0
}

// Promise 19: rows are neither changed nor read behind the length of their list.
func TestTablesAreLeftAlone(t *testing.T) {
	invalid := [][]int{{-1}, {16}, {3, 1, 16}, make([]int, maxListed+1), {math.MinInt, math.MaxInt}}
	for _, wide := range []int{-1, 0, 4, 8, 16, 17} {
		for _, l := range slices.Concat(edgeTables(4), invalid) {
			for _, want := range []int{-1, 0, 1, 3, 15, 16} {
				rows, whole := withTail(l)
				before := slices.Clone(whole)
				got := callTable(wide, rows, want)
				if !slices.Equal(whole, before) {
					t.Fatal("changed", wide, l, want, whole)
				}
				if !slices.EqualFunc(got, callTable(wide, slices.Clip(slices.Clone(l)), want), slices.Equal) {
					t.Fatal("read behind the length", wide, l, want, got)
				}
			}
		}
	}
}

// The lists are their own basis, span or transpose, so that a result could be the argument itself.
func TestTablesReturnNewMemory(t *testing.T) {
	for _, f := range []struct {
		name string
		call func(int, []int) ([]int, bool)
		rows []int
	}{
		{"StepsOf", impl.StepsOf, []int{8, 4, 2, 1}},
		{"NullOf", impl.NullOf, nil},
		{"NullOf", impl.NullOf, []int{10, 5}},
		{"SpanOf", impl.SpanOf, []int{0, 1, 2, 3}},
		{"TurnRows", impl.TurnRows, []int{1, 2, 4, 8}},
		{"MakeBy", func(wide int, rows []int) ([]int, bool) { return impl.MakeBy(wide, rows, 3) }, []int{0, 1, 2, 3}},
	} {
		rows := slices.Clone(f.rows)
		first, _ := f.call(4, rows)
		want := slices.Clone(first)
		for k := range first {
			first[k] = -1
		}
		if second, ok := f.call(4, rows); !ok || !slices.Equal(second, want) || !slices.Equal(rows, f.rows) {
			t.Error(f.name, f.rows, rows, second, want, ok)
		}
	}
}
