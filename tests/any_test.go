package tests

import (
	"math"
	"slices"
	"testing"

	"loop.example/g00647/impl"
)

const (
	prime     = 257
	maxTerms  = 8
	maxPlaces = 16
	maxWrong  = 3
)

var (
	// badElements lie just outside 0..256 and at the ends of int. Most of them are congruent to small elements.
	badElements = []int{math.MinInt, math.MinInt + 1, -258, -257, -256, -2, -1, 257, 258, 513, 514, 515, 1 << 16, 1 << 32, math.MaxInt - 1, math.MaxInt}
	badPlaces   = []int{math.MinInt, math.MinInt + 1, -257, -16, -2, -1, 16, 17, 32, 256, 257, 258, 1 << 32, math.MaxInt - 1, math.MaxInt}
	// badNs lie just outside 1..16 and at the ends of int.
	badNs = []int{math.MinInt, math.MinInt + 1, -16, -2, -1, 0, 17, 18, 32, 257, 1 << 32, math.MaxInt - 1, math.MaxInt}
	// badTerms lie just outside 1..8 and at the ends of int. 9 to 16 are numbers of points all the same.
	badTerms  = []int{math.MinInt, math.MinInt + 1, -8, -2, -1, 0, 9, 10, 15, 16, 17, 257, math.MaxInt - 1, math.MaxInt}
	badWrongs = []int{math.MinInt, math.MinInt + 1, -3, -2, -1, 4, 5, 8, 16, 17, 257, math.MaxInt - 1, math.MaxInt}
)

// valueIn adds up the powers; without a remainder in between, the sum is still an int.
func valueIn(l []int, at int) int {
	sum, power := 0, 1
	for _, term := range l {
		sum += term * power
		power *= at
	}
	return sum % prime
}

// inverseIn tries all elements.
func inverseIn(n int) int {
	inverse := 1
	for n*inverse%prime != 1 {
		inverse++
	}
	return inverse
}

func remainderIn(n int) int {
	return (n%prime + prime) % prime
}

// basisIn is the polynomial of Lagrange that is 1 at the place of p[i] and 0 at the other places.
func basisIn(p []impl.Point, i int) []int {
	basis, divisor := []int{1}, 1
	for j := range p {
		if j == i {
			continue
		}
		next := make([]int, len(basis)+1)
		for k, term := range basis {
			next[k+1] = remainderIn(next[k+1] + term)
			next[k] = remainderIn(next[k] - p[j].At*term)
		}
		basis = next
		divisor = remainderIn(divisor * (p[i].At - p[j].At))
	}
	inverse := inverseIn(divisor)
	for k := range basis {
		basis[k] = remainderIn(basis[k] * inverse)
	}
	return basis
}

// curveIn is the sum of Lagrange over the points.
func curveIn(p []impl.Point) []int {
	l := make([]int, len(p))
	for i, x := range p {
		for k, term := range basisIn(p, i) {
			l[k] = remainderIn(l[k] + x.Value*term)
		}
	}
	return l
}

func agreeIn(l []int, p []impl.Point) int {
	count := 0
	for _, x := range p {
		if valueIn(l, x.At) == x.Value {
			count++
		}
	}
	return count
}

// subsetsIn is the list of the sets of k of the first n indexes. Those with the last index come behind all others: the sum of the powers of two is larger.
func subsetsIn(n int, k int) [][]int {
	if k == 0 {
		return [][]int{nil}
	}
	if n < k {
		return nil
	}
	sets := subsetsIn(n-1, k)
	for _, set := range subsetsIn(n-1, k-1) {
		sets = append(sets, append(slices.Clone(set), n-1))
	}
	return sets
}

func pointsAt(p []impl.Point, indexes []int) []impl.Point {
	var some []impl.Point
	for _, k := range indexes {
		some = append(some, p[k])
	}
	return some
}

func readIn(k int, p []impl.Point, wrong int) ([]int, bool) {
	for _, set := range subsetsIn(len(p), k) {
		if l := curveIn(pointsAt(p, set)); len(p)-agreeIn(l, p) <= wrong {
			return l, true
		}
	}
	return nil, false
}

// pointsIn is the list of the points of a polynomial at these places.
func pointsIn(l []int, places []int) []impl.Point {
	var p []impl.Point
	for _, at := range places {
		p = append(p, impl.Point{At: at, Value: valueIn(l, at)})
	}
	return p
}

// pointsOf is the list of points with these places and values.
func pointsOf(pairs ...[2]int) []impl.Point {
	var p []impl.Point
	for _, pair := range pairs {
		p = append(p, impl.Point{At: pair[0], Value: pair[1]})
	}
	return p
}

// valued is the list of points with these values at these places.
func valued(places []int, values []int) []impl.Point {
	var p []impl.Point
	for k, at := range places {
		p = append(p, impl.Point{At: at, Value: values[k]})
	}
	return p
}

func mixedTerms(count int, seed uint64) []int {
	l := mixedRows(16, count, seed)
	for k := range l {
		l[k] %= prime
	}
	return l
}

// mixedPlaces is a list of count different places, increasing.
func mixedPlaces(count int, seed uint64) []int {
	var places []int
	for _, at := range mixedRows(4, 400, seed) {
		if len(places) < count && !slices.Contains(places, at) {
			places = append(places, at)
		}
	}
	slices.Sort(places)
	return places
}

// somePlaces holds the first and the last places, those at both ends, and mixed ones.
func somePlaces(count int) [][]int {
	first, last := numbersFrom(0, count), numbersFrom(maxPlaces-count, count)
	ends := append(slices.Clone(first[:count/2]), last[count/2:]...)
	return [][]int{first, last, ends, mixedPlaces(count, uint64(count)), mixedPlaces(count, uint64(count+100))}
}

// somePolynomials holds polynomials of k coefficients at both ends of the range, of one term each, with leading coefficients of 0, and mixed ones.
func somePolynomials(k int) [][]int {
	zero, top, both := make([]int, k), make([]int, k), make([]int, k)
	for i := range k {
		top[i] = prime - 1
		both[i] = (prime - 1) * (i % 2)
	}
	all := [][]int{zero, top, both, mixedTerms(k, 31), mixedTerms(k, 32)}
	for i := range k {
		one := make([]int, k)
		one[i] = 1 + 255*(i%2)
		short := mixedTerms(k, 33)
		clear(short[i:])
		all = append(all, one, short)
	}
	return all
}

// spoilt is a copy of the list in which the values at these indexes are wrong.
func spoilt(p []impl.Point, indexes []int, seed uint64) []impl.Point {
	p = slices.Clone(p)
	for i, change := range mixedRows(8, len(indexes), seed) {
		p[indexes[i]].Value = (p[indexes[i]].Value + 1 + change) % prime
	}
	return p
}

func TestPointLimits(t *testing.T) {
	if impl.Prime != 257 || impl.MaxPlaces != 16 {
		t.Fatal(impl.Prime, impl.MaxPlaces)
	}
}

func TestInverseOf(t *testing.T) {
	for n := 1; n < prime; n++ {
		if inverse, ok := impl.InverseOf(n); !ok || inverse != inverseIn(n) || n*inverse%prime != 1 {
			t.Fatal(n, inverse, ok)
		}
	}
}

func TestKnownInverses(t *testing.T) {
	for _, c := range [][2]int{
		{1, 1}, {2, 129}, {3, 86}, {4, 193}, {15, 120}, {16, 241}, {17, 121}, {100, 18}, {128, 255}, {129, 2}, {255, 128}, {256, 256},
	} {
		if inverse, ok := impl.InverseOf(c[0]); inverse != c[1] || !ok {
			t.Error(c, inverse, ok)
		}
	}
}

func TestValueAt(t *testing.T) {
	for k := 1; k <= maxTerms; k++ {
		for _, l := range somePolynomials(k) {
			for at := range maxPlaces {
				if value, ok := impl.ValueAt(l, at); !ok || value != valueIn(l, at) {
					t.Fatal(l, at, value, ok)
				}
			}
		}
	}
}

// Every polynomial of one coefficient, and every one of two at a few places.
func TestValuesOfShortPolynomials(t *testing.T) {
	for a := range prime {
		for at := range maxPlaces {
			if value, ok := impl.ValueAt([]int{a}, at); value != a || !ok {
				t.Fatal(a, at, value, ok)
			}
		}
		for b := range prime {
			for _, at := range []int{0, 1, 2, 15} {
				if value, ok := impl.ValueAt([]int{a, b}, at); value != (a+b*at)%prime || !ok {
					t.Fatal(a, b, at, value, ok)
				}
			}
		}
	}
}

// Worked out apart from the program.
func TestKnownValues(t *testing.T) {
	for _, c := range []struct {
		l         []int
		at, value int
	}{
		{[]int{1, 2}, 3, 7},
		{[]int{0}, 0, 0},
		{[]int{0}, 15, 0},
		{[]int{256}, 0, 256},
		{[]int{256}, 15, 256},
		{[]int{0, 1}, 15, 15},
		{[]int{256, 256}, 15, 241},
		{[]int{0, 256}, 15, 242},
		{[]int{16, 16}, 15, 256},
		{[]int{2, 17}, 15, 0},
		{[]int{5, 0, 7}, 10, 191},
		{[]int{0, 0, 0, 0, 0, 0, 0, 0}, 7, 0},
		{[]int{1, 1, 1, 1, 1, 1, 1, 1}, 0, 1},
		{[]int{1, 1, 1, 1, 1, 1, 1, 1}, 1, 8},
		{[]int{1, 1, 1, 1, 1, 1, 1, 1}, 15, 203},
		{[]int{256, 256, 256, 256, 256, 256, 256, 256}, 0, 256},
		{[]int{256, 256, 256, 256, 256, 256, 256, 256}, 1, 249},
		{[]int{256, 256, 256, 256, 256, 256, 256, 256}, 15, 54},
		{[]int{0, 0, 0, 0, 0, 0, 0, 1}, 15, 121},
		{[]int{0, 0, 0, 0, 0, 0, 0, 1}, 2, 128},
		{[]int{0, 0, 0, 0, 0, 0, 0, 256}, 3, 126},
		{[]int{1, 2, 3, 4, 5, 6, 7, 8}, 2, 251},
		{[]int{1, 2, 3, 4, 5, 6, 7, 8}, 15, 13},
	} {
		if value, ok := impl.ValueAt(c.l, c.at); value != c.value || !ok {
			t.Error(c, value, ok)
		}
	}
}

func TestPointsFor(t *testing.T) {
	for k := 1; k <= maxTerms; k++ {
		for _, l := range somePolynomials(k) {
			for n := 1; n <= maxPlaces; n++ {
				p, ok := impl.PointsFor(l, n)
				if !ok || !slices.Equal(p, pointsIn(l, numbersFrom(0, n))) || !impl.GoodPoints(p) {
					t.Fatal(l, n, p, ok)
				}
			}
		}
	}
}

func TestKnownPoints(t *testing.T) {
	for _, c := range []struct {
		l []int
		p []impl.Point
	}{
		{[]int{1, 2}, pointsOf([2]int{0, 1}, [2]int{1, 3}, [2]int{2, 5}, [2]int{3, 7})},
		{[]int{5}, pointsOf([2]int{0, 5})},
		{[]int{256, 1}, pointsOf([2]int{0, 256}, [2]int{1, 0}, [2]int{2, 1})},
		{[]int{0, 0, 256}, pointsOf([2]int{0, 0}, [2]int{1, 256}, [2]int{2, 253})},
		{[]int{1, 2, 3, 4, 5, 6, 7, 8}, pointsOf([2]int{0, 1}, [2]int{1, 36}, [2]int{2, 251})},
	} {
		if p, ok := impl.PointsFor(c.l, len(c.p)); !ok || !slices.Equal(p, c.p) {
			t.Error(c, p, ok)
		}
	}
}

func TestGoodPoints(t *testing.T) {
	if !impl.GoodPoints(nil) || !impl.GoodPoints([]impl.Point{}) {
		t.Error("no points")
	}
	for at := range maxPlaces {
		for value := range prime {
			if !impl.GoodPoints([]impl.Point{{At: at, Value: value}}) {
				t.Fatal(at, value)
			}
		}
	}
	for set := range 1 << maxPlaces {
		places := indexesOf(set)
		if p := valued(places, mixedTerms(len(places), uint64(set))); !impl.GoodPoints(p) {
			t.Fatal(p)
		}
	}
}

// Promise 7, first part: every set of k places.
func TestAnyPointsDetermineThePolynomial(t *testing.T) {
	for k := 1; k <= maxTerms; k++ {
		all := [][]int{make([]int, k), mixedTerms(k, 34), mixedTerms(k, 35), append(mixedTerms(k-1, 36), 0)}
		for _, places := range subsetsIn(maxPlaces, k) {
			for _, l := range all {
				p := pointsIn(l, places)
				if got, ok := impl.FromPoints(k, p); !ok || !slices.Equal(got, l) {
					t.Fatal(l, p, got, ok)
				}
			}
		}
	}
}

// Promise 7, first part, with points that the program itself makes.
func TestFromPointsInvertsPointsFor(t *testing.T) {
	for k := 1; k <= maxTerms; k++ {
		for _, l := range somePolynomials(k) {
			for n := k; n <= maxPlaces; n++ {
				p, _ := impl.PointsFor(l, n)
				for first := range n - k + 1 {
					if got, ok := impl.FromPoints(k, p[first:]); !ok || !slices.Equal(got, l) {
						t.Fatal(l, p[first:], got, ok)
					}
				}
			}
		}
	}
}

// Exactly k points of any values: the polynomial passes through them, and it is the one of Lagrange.
func TestFromPoints(t *testing.T) {
	for k := 1; k <= maxTerms; k++ {
		for _, places := range somePlaces(k) {
			for _, values := range append(somePolynomials(k), mixedTerms(k, 37), mixedTerms(k, 38), mixedTerms(k, 39)) {
				p := valued(places, values)
				l, ok := impl.FromPoints(k, p)
				if !ok || len(l) != k || !slices.Equal(l, curveIn(p)) || agreeIn(l, p) != k {
					t.Fatal(p, l, ok)
				}
			}
		}
	}
}

// Behind the first k points, the values do not matter.
func TestFromPointsTakesTheFirstPoints(t *testing.T) {
	for k := 1; k <= maxTerms; k++ {
		for n := k; n <= maxPlaces; n++ {
			for _, places := range somePlaces(n) {
				for seed := range 6 {
					p := valued(places, mixedTerms(n, uint64(n*10+seed)))
					if l, ok := impl.FromPoints(k, p); !ok || !slices.Equal(l, curveIn(p[:k])) {
						t.Fatal(k, p, l, ok)
					}
				}
			}
		}
	}
}

// A polynomial of fewer coefficients has leading coefficients of 0.
func TestFromPointsReturnsLeadingZeros(t *testing.T) {
	for k := 1; k <= maxTerms; k++ {
		for terms := 1; terms <= k; terms++ {
			for _, places := range somePlaces(k) {
				for _, l := range somePolynomials(terms) {
					want := append(slices.Clone(l), make([]int, k-terms)...)
					if got, ok := impl.FromPoints(k, pointsIn(l, places)); !ok || !slices.Equal(got, want) {
						t.Fatal(k, l, places, got, ok)
					}
				}
			}
		}
	}
}

// Every value of one point, and every pair of values of two.
func TestFromFewPoints(t *testing.T) {
	for a := range prime {
		for at := range maxPlaces {
			if l, ok := impl.FromPoints(1, []impl.Point{{At: at, Value: a}}); !ok || !slices.Equal(l, []int{a}) {
				t.Fatal(at, a, l, ok)
			}
		}
		for b := range prime {
			p := []impl.Point{{At: 0, Value: a}, {At: 15, Value: b}}
			if l, ok := impl.FromPoints(2, p); !ok || len(l) != 2 || l[0] != a || l[1] < 0 || l[1] >= prime || valueIn(l, 15) != b {
				t.Fatal(p, l, ok)
			}
		}
	}
}

// Worked out apart from the program.
func TestKnownPolynomials(t *testing.T) {
	for _, c := range []struct {
		pairs [][2]int
		l     []int
	}{
		{[][2]int{{0, 1}, {2, 5}}, []int{1, 2}},
		{[][2]int{{0, 0}}, []int{0}},
		{[][2]int{{15, 256}}, []int{256}},
		{[][2]int{{0, 256}, {15, 0}}, []int{256, 120}},
		{[][2]int{{14, 0}, {15, 1}}, []int{243, 1}},
		{[][2]int{{0, 1}, {1, 1}, {2, 1}}, []int{1, 0, 0}},
		{[][2]int{{0, 0}, {1, 1}, {2, 4}}, []int{0, 0, 1}},
		{[][2]int{{3, 9}, {7, 49}, {12, 144}}, []int{0, 0, 1}},
		{[][2]int{{13, 5}, {14, 5}, {15, 6}}, []int{96, 115, 129}},
		{[][2]int{{0, 256}, {1, 0}, {2, 256}, {15, 0}}, []int{256, 43, 66, 149}},
		{[][2]int{{0, 0}, {1, 1}, {2, 8}, {3, 27}, {4, 64}, {5, 125}, {6, 216}, {7, 86}}, []int{0, 0, 0, 1, 0, 0, 0, 0}},
		{[][2]int{{0, 0}, {1, 1}, {2, 0}, {3, 1}, {4, 0}, {5, 1}, {6, 0}, {7, 1}}, []int{0, 187, 112, 215, 128, 43, 211, 133}},
		{[][2]int{{8, 0}, {9, 0}, {10, 0}, {11, 0}, {12, 0}, {13, 0}, {14, 0}, {15, 256}}, []int{91, 231, 59, 93, 43, 254, 156, 18}},
		{[][2]int{{0, 1}, {1, 0}, {2, 0}, {3, 0}, {4, 0}, {5, 0}, {6, 0}, {7, 0}}, []int{1, 69, 64, 24, 186, 142, 10, 18}},
		{[][2]int{{0, 256}, {2, 256}, {4, 256}, {6, 256}, {8, 256}, {10, 256}, {12, 256}, {14, 256}}, []int{256, 0, 0, 0, 0, 0, 0, 0}},
		{[][2]int{{1, 0}, {3, 1}, {5, 2}, {7, 3}, {9, 4}, {11, 5}, {13, 6}, {15, 7}}, []int{128, 129, 0, 0, 0, 0, 0, 0}},
	} {
		if l, ok := impl.FromPoints(len(c.l), pointsOf(c.pairs...)); !ok || !slices.Equal(l, c.l) {
			t.Error(c, l, ok)
		}
	}
}

func TestAgreeWith(t *testing.T) {
	for k := 1; k <= maxTerms; k++ {
		for _, l := range somePolynomials(k) {
			if count, ok := impl.AgreeWith(l, nil); count != 0 || !ok {
				t.Fatal(l, count, ok)
			}
			for n := 1; n <= maxPlaces; n++ {
				for _, places := range somePlaces(n) {
					p := pointsIn(l, places)
					for _, wrong := range [][]int{nil, {0}, {n - 1}, numbersFrom(0, n/2), numbersFrom(n/2, n-n/2), numbersFrom(0, n)} {
						if count, ok := impl.AgreeWith(l, spoilt(p, wrong, uint64(n))); count != n-len(wrong) || !ok {
							t.Fatal(l, p, wrong, count, ok)
						}
					}
					p = valued(places, mixedTerms(n, 40))
					if count, ok := impl.AgreeWith(l, p); count != agreeIn(l, p) || !ok {
						t.Fatal(l, p, count, ok)
					}
				}
			}
		}
	}
}

func TestKnownAgreement(t *testing.T) {
	for _, c := range []struct {
		l     []int
		pairs [][2]int
		count int
	}{
		{[]int{1, 2}, [][2]int{{0, 1}, {1, 3}, {2, 5}, {3, 7}}, 4},
		{[]int{1, 2}, [][2]int{{0, 1}, {1, 3}, {2, 9}, {3, 7}}, 3},
		{[]int{1, 2}, [][2]int{{0, 2}, {1, 1}, {2, 1}, {3, 2}}, 0},
		{[]int{1, 2}, [][2]int{{15, 31}}, 1},
		{[]int{1, 2, 0, 0, 0, 0, 0, 0}, [][2]int{{0, 1}, {15, 31}}, 2},
		{[]int{0}, [][2]int{{0, 0}, {7, 0}, {15, 0}}, 3},
		{[]int{0}, [][2]int{{0, 256}, {7, 1}, {15, 256}}, 0},
		{[]int{256}, [][2]int{{0, 256}, {7, 0}, {15, 256}}, 2},
		{[]int{0, 256}, [][2]int{{0, 0}, {1, 256}, {2, 255}, {15, 242}}, 4},
		{[]int{5}, nil, 0},
	} {
		if count, ok := impl.AgreeWith(c.l, pointsOf(c.pairs...)); count != c.count || !ok {
			t.Error(c, count, ok)
		}
	}
}

// Promise 7, second part: wrong values at every set of indexes, as many as are corrected and fewer.
func TestWrongValuesAreCorrected(t *testing.T) {
	corrected := map[int]bool{}
	for k := 1; k <= maxTerms; k++ {
		for n := k; n <= maxPlaces; n++ {
			most := min((n-k)/2, maxWrong)
			for count := range most + 1 {
				for i, set := range subsetsIn(n, count) {
					seed := uint64(n*1000 + i)
					l := mixedTerms(k, seed)
					p := spoilt(pointsIn(l, somePlaces(n)[i%5]), set, seed)
					if got, ok := impl.ReadWrong(k, p, most); !ok || !slices.Equal(got, l) {
						t.Fatal(k, l, p, set, got, ok)
					}
					// The exact number of wrong values suffices, too.
					if got, ok := impl.ReadWrong(k, p, count); !ok || !slices.Equal(got, l) {
						t.Fatal(k, l, p, set, got, ok)
					}
				}
				corrected[count] = true
			}
		}
	}
	if len(corrected) != maxWrong+1 {
		t.Error(corrected)
	}
}

// Promise 7, second part, with points that the program itself makes, at the limit of (n - k) / 2: wrong values at the first places, at the last ones and in between.
func TestBurstsAreCorrected(t *testing.T) {
	for k := 1; k <= maxTerms; k++ {
		for _, l := range somePolynomials(k) {
			for n := k; n <= maxPlaces; n++ {
				wrong := min((n-k)/2, maxWrong)
				points, _ := impl.PointsFor(l, n)
				for _, first := range []int{0, (n - wrong) / 2, n - wrong} {
					p := spoilt(points, numbersFrom(first, wrong), uint64(first))
					if got, ok := impl.ReadWrong(k, p, wrong); !ok || !slices.Equal(got, l) {
						t.Fatal(l, p, wrong, got, ok)
					}
				}
			}
		}
	}
}

// With one wrong value more than is allowed there is no polynomial, as long as n - k is at least the sum of both numbers.
func TestMoreWrongValuesAreNotCorrected(t *testing.T) {
	refused := 0
	for k := 1; k <= maxTerms; k++ {
		for n := k; n <= min(k+7, maxPlaces); n++ {
			for wrong := range maxWrong + 1 {
				for _, first := range []int{0, (n - wrong - 1) / 2, n - wrong - 1} {
					if n-k < 2*wrong+1 {
						continue
					}
					l := mixedTerms(k, uint64(first+50))
					p := spoilt(pointsIn(l, somePlaces(n)[n%5]), numbersFrom(first, wrong+1), uint64(n))
					if got, ok := impl.ReadWrong(k, p, wrong); ok || len(got) != 0 {
						t.Fatal(k, l, p, wrong, got, ok)
					}
					refused++
				}
			}
		}
	}
	if refused == 0 {
		t.Error("none")
	}
}

// Any values, which are mostly far from every polynomial.
func TestReadWrong(t *testing.T) {
	found, none := 0, 0
	for k := 1; k <= maxTerms; k++ {
		for n := k; n <= min(k+5, maxPlaces); n++ {
			for i, places := range somePlaces(n) {
				for wrong := range maxWrong + 1 {
					p := valued(places, mixedTerms(n, uint64(n*100+i*10+wrong)))
					want, wantOk := readIn(k, p, wrong)
					got, ok := impl.ReadWrong(k, p, wrong)
					if ok != wantOk || !slices.Equal(got, want) {
						t.Fatal(k, p, wrong, got, ok, want)
					}
					found += asNumber(ok)
					none += asNumber(!ok)
				}
			}
		}
	}
	if found == 0 || none == 0 {
		t.Error(found, none)
	}
}

// The largest search: 16 points, and none of the sets of eight qualifies.
func TestReadWrongEndsWithoutAPolynomial(t *testing.T) {
	p := valued(numbersFrom(0, maxPlaces), mixedTerms(maxPlaces, 41))
	for wrong := range maxWrong + 1 {
		if l, ok := impl.ReadWrong(maxTerms, p, wrong); ok || len(l) != 0 {
			t.Fatal(p, wrong, l, ok)
		}
	}
}

// With at most wrong points behind k of them, every set qualifies, whatever the values are.
func TestFirstOfAllSetsCounts(t *testing.T) {
	for k := 1; k <= maxTerms; k++ {
		for wrong := range maxWrong + 1 {
			for n := k; n <= k+wrong; n++ {
				p := valued(mixedPlaces(n, 42), mixedTerms(n, 43))
				if l, ok := impl.ReadWrong(k, p, wrong); !ok || !slices.Equal(l, curveIn(p[:k])) {
					t.Fatal(k, p, wrong, l, ok)
				}
			}
		}
	}
}

// Few different values, so that several sets qualify, with different polynomials.
func TestFirstSetCounts(t *testing.T) {
	several := map[int]bool{}
	for _, c := range []struct{ k, n, values int }{{1, 4, 4}, {1, 7, 3}, {2, 4, 4}, {2, 5, 4}, {2, 6, 3}, {3, 6, 3}, {3, 7, 2}, {4, 7, 2}, {4, 8, 2}} {
		lists := 1
		for range c.n {
			lists *= c.values
		}
		for number := range lists {
			var values []int
			for rest := number; len(values) < c.n; rest /= c.values {
				values = append(values, rest%c.values)
			}
			p := valued(somePlaces(c.n)[number%5], values)
			for wrong := 1; wrong <= maxWrong; wrong++ {
				want, wantOk := readIn(c.k, p, wrong)
				if got, ok := impl.ReadWrong(c.k, p, wrong); ok != wantOk || !slices.Equal(got, want) {
					t.Fatal(c.k, p, wrong, got, ok, want)
				}
				if number%7 == 0 && wantOk && hasAnother(c.k, p, wrong, want) {
					several[c.k] = true
				}
			}
		}
	}
	if len(several) != 4 {
		t.Error(several)
	}
}

// hasAnother tells whether a polynomial other than l would do as well.
func hasAnother(k int, p []impl.Point, wrong int, l []int) bool {
	return slices.ContainsFunc(subsetsIn(len(p), k), func(set []int) bool {
		other := curveIn(pointsAt(p, set))
		return len(p)-agreeIn(other, p) <= wrong && !slices.Equal(other, l)
	})
}

// Half of the points belong to one polynomial and half to another one: both qualify.
func TestSetsAreInTheOrderOfTheirSums(t *testing.T) {
	for k := 1; k <= maxWrong; k++ {
		first, second := mixedTerms(k, 44), mixedTerms(k, 45)
		for i, set := range subsetsIn(2*maxWrong, maxWrong) {
			places := somePlaces(2 * maxWrong)[i%5]
			p := pointsIn(first, places)
			for _, at := range set {
				p[at].Value = valueIn(second, places[at])
			}
			want, _ := readIn(k, p, maxWrong)
			if got, ok := impl.ReadWrong(k, p, maxWrong); !ok || !slices.Equal(got, want) {
				t.Fatal(k, p, got, ok, want)
			}
		}
	}
}

// Worked out apart from the program.
func TestKnownReadings(t *testing.T) {
	for _, c := range []struct {
		k     int
		pairs [][2]int
		wrong int
		l     []int
		ok    bool
	}{
		{2, [][2]int{{0, 1}, {1, 3}, {2, 9}, {3, 7}}, 1, []int{1, 2}, true},
		{2, [][2]int{{0, 1}, {1, 3}, {2, 9}, {3, 7}}, 0, nil, false},
		{2, [][2]int{{0, 1}, {1, 3}, {2, 9}}, 1, []int{1, 2}, true},
		{2, [][2]int{{0, 1}, {1, 3}, {2, 9}}, 0, nil, false},
		{2, [][2]int{{0, 10}, {1, 3}, {2, 5}, {3, 8}}, 1, nil, false},
		{2, [][2]int{{0, 10}, {1, 3}, {2, 5}, {3, 8}}, 2, []int{10, 250}, true},
		// The sets {0} and {1} qualify, or {1} and {2}, or none.
		{1, [][2]int{{0, 7}, {1, 3}, {2, 3}, {3, 7}}, 2, []int{7}, true},
		{1, [][2]int{{0, 1}, {1, 3}, {2, 3}, {3, 7}}, 2, []int{3}, true},
		{1, [][2]int{{0, 7}, {1, 3}, {2, 3}, {3, 7}}, 1, nil, false},
		{1, [][2]int{{0, 7}}, 0, []int{7}, true},
		{1, [][2]int{{15, 256}}, 3, []int{256}, true},
		// The set {1, 2} comes before {0, 3}.
		{2, [][2]int{{0, 10}, {1, 1}, {2, 2}, {3, 13}, {4, 4}, {5, 15}}, 3, []int{0, 1}, true},
		{2, [][2]int{{0, 10}, {1, 1}, {2, 2}, {3, 13}, {4, 4}, {5, 15}}, 2, nil, false},
		{3, [][2]int{{0, 0}, {1, 1}, {2, 4}, {5, 25}, {9, 0}, {11, 121}, {15, 225}}, 2, []int{0, 0, 1}, true},
		{3, [][2]int{{0, 5}, {1, 5}, {2, 4}, {5, 25}, {9, 81}, {11, 121}, {15, 225}}, 2, []int{0, 0, 1}, true},
		{3, [][2]int{{0, 0}, {1, 1}, {2, 4}, {5, 25}, {9, 81}, {11, 0}, {15, 0}}, 2, []int{0, 0, 1}, true},
		{3, [][2]int{{0, 0}, {1, 1}, {2, 4}, {5, 25}, {9, 81}, {11, 0}, {15, 0}}, 1, nil, false},
	} {
		if l, ok := impl.ReadWrong(c.k, pointsOf(c.pairs...), c.wrong); ok != c.ok || !slices.Equal(l, c.l) {
			t.Error(c, l, ok)
		}
	}
}

func refusePolynomial(t *testing.T, l []int) {
	t.Helper()
	if value, ok := impl.ValueAt(l, 3); value != 0 || ok {
		t.Fatal("ValueAt", l, value, ok)
	}
	if p, ok := impl.PointsFor(l, 4); len(p) != 0 || ok {
		t.Fatal("PointsFor", l, p, ok)
	}
	for _, p := range [][]impl.Point{nil, {{At: 0, Value: 0}}, {{At: 3, Value: 1}, {At: 4, Value: 2}}} {
		if count, ok := impl.AgreeWith(l, p); count != 0 || ok {
			t.Fatal("AgreeWith", l, p, count, ok)
		}
	}
}

func refuseFrom(t *testing.T, k int, p []impl.Point) {
	t.Helper()
	if l, ok := impl.FromPoints(k, p); len(l) != 0 || ok {
		t.Fatal("FromPoints", k, p, l, ok)
	}
	for wrong := range maxWrong + 1 {
		refuseReading(t, k, p, wrong)
	}
}

func refuseReading(t *testing.T, k int, p []impl.Point, wrong int) {
	t.Helper()
	if l, ok := impl.ReadWrong(k, p, wrong); len(l) != 0 || ok {
		t.Fatal("ReadWrong", k, p, wrong, l, ok)
	}
}

// refusePoints gives them to polynomials, of which most have a value at the places, and to every k.
func refusePoints(t *testing.T, p []impl.Point) {
	t.Helper()
	if impl.GoodPoints(p) {
		t.Fatal("GoodPoints", p)
	}
	for _, l := range [][]int{{0}, {1, 2}, mixedTerms(maxTerms, 46)} {
		if count, ok := impl.AgreeWith(l, p); count != 0 || ok {
			t.Fatal("AgreeWith", l, p, count, ok)
		}
	}
	for k := 1; k <= maxTerms; k++ {
		refuseFrom(t, k, p)
	}
}

func TestInverseOfRefuses(t *testing.T) {
	for _, n := range append([]int{0, 259, 386, -255}, badElements...) {
		if inverse, ok := impl.InverseOf(n); inverse != 0 || ok {
			t.Error(n, inverse, ok)
		}
	}
}

func TestPolynomialsOfOtherLengthsAreRefused(t *testing.T) {
	refusePolynomial(t, nil)
	refusePolynomial(t, []int{})
	for _, count := range []int{9, 10, 16, 17, 257, 100000} {
		refusePolynomial(t, make([]int, count))
		refusePolynomial(t, mixedTerms(count, 47))
	}
}

func TestPolynomialsRefuseInvalidCoefficients(t *testing.T) {
	for k := 1; k <= maxTerms; k++ {
		for at := range k {
			for _, term := range badElements {
				for _, l := range [][]int{make([]int, k), mixedTerms(k, 48)} {
					l[at] = term
					refusePolynomial(t, l)
				}
			}
		}
	}
}

func TestPolynomialsRefuseInvalidPlaces(t *testing.T) {
	for k := 1; k <= maxTerms; k++ {
		for _, l := range somePolynomials(k) {
			for _, at := range badPlaces {
				if value, ok := impl.ValueAt(l, at); value != 0 || ok {
					t.Fatal(l, at, value, ok)
				}
			}
			for _, n := range badNs {
				if p, ok := impl.PointsFor(l, n); len(p) != 0 || ok {
					t.Fatal(l, n, p, ok)
				}
			}
		}
	}
}

// One place or one value is invalid, in lists of each length.
func TestInvalidPointsAreRefused(t *testing.T) {
	for n := 1; n <= maxPlaces; n++ {
		for i := range n {
			p := valued(somePlaces(n)[i%5], mixedTerms(n, 49))
			for _, at := range badPlaces {
				other := slices.Clone(p)
				other[i].At = at
				refusePoints(t, other)
			}
			for _, value := range badElements {
				other := slices.Clone(p)
				other[i].Value = value
				refusePoints(t, other)
			}
		}
	}
}

func TestPointsInAnotherOrderAreRefused(t *testing.T) {
	for n := 2; n <= maxPlaces; n++ {
		for _, places := range somePlaces(n) {
			p := valued(places, mixedTerms(n, 50))
			for i := range n - 1 {
				equal := slices.Clone(p)
				equal[i].At = equal[i+1].At
				refusePoints(t, equal)
				same := slices.Clone(p)
				same[i] = same[i+1]
				refusePoints(t, same)
				swapped := slices.Clone(p)
				swapped[i], swapped[i+1] = swapped[i+1], swapped[i]
				refusePoints(t, swapped)
			}
			slices.Reverse(p)
			refusePoints(t, p)
		}
	}
}

// More than 16 points, with equal places or with places above 15.
func TestManyPointsAreRefused(t *testing.T) {
	for _, count := range []int{17, 18, 32, 257, 10000} {
		refusePoints(t, make([]impl.Point, count))
		refusePoints(t, valued(numbersFrom(0, count), make([]int, count)))
		refusePoints(t, valued(numbersFrom(maxPlaces-count, count), make([]int, count)))
		last := make([]impl.Point, count-maxPlaces)
		for k := range last {
			last[k].At = maxPlaces - 1
		}
		refusePoints(t, append(valued(numbersFrom(0, maxPlaces), make([]int, maxPlaces)), last...))
	}
}

func TestOtherNumbersOfCoefficientsAreRefused(t *testing.T) {
	for n := range maxPlaces + 1 {
		for _, p := range [][]impl.Point{valued(numbersFrom(0, n), make([]int, n)), valued(mixedPlaces(n, 51), mixedTerms(n, 51))} {
			for _, k := range badTerms {
				refuseFrom(t, k, p)
			}
		}
	}
}

func TestFewerPointsAreRefused(t *testing.T) {
	for k := 1; k <= maxTerms; k++ {
		refuseFrom(t, k, nil)
		for n := range k {
			for _, places := range somePlaces(n) {
				refuseFrom(t, k, valued(places, make([]int, n)))
				refuseFrom(t, k, valued(places, mixedTerms(n, 52)))
			}
		}
	}
}

func TestOtherNumbersOfWrongValuesAreRefused(t *testing.T) {
	for k := 1; k <= maxTerms; k++ {
		for n := k; n <= maxPlaces; n++ {
			for _, wrong := range badWrongs {
				p := pointsIn(mixedTerms(k, 53), mixedPlaces(n, 53))
				refuseReading(t, k, p, wrong)
				refuseReading(t, k, spoilt(p, []int{0}, 53), wrong)
			}
		}
	}
}

// pointsWithTail puts points behind the length of the list that would be invalid or make it too long.
func pointsWithTail(p []impl.Point) ([]impl.Point, []impl.Point) {
	whole := append(slices.Clone(p), impl.Point{At: 15, Value: 1}, impl.Point{At: -1, Value: -1}, impl.Point{At: 0, Value: 257})
	return whole[:len(p)], whole
}

// callPoints calls every function of the chapter that takes points and gathers what they return.
func callPoints(k int, l []int, p []impl.Point, wrong int) [][]int {
	terms, ok := impl.FromPoints(k, p)
	all := [][]int{{asNumber(impl.GoodPoints(p)), asNumber(ok)}, terms}
	count, ok := impl.AgreeWith(l, p)
	all = append(all, []int{count, asNumber(ok)})
	terms, ok = impl.ReadWrong(k, p, wrong)
	return append(all, terms, []int{asNumber(ok)})
}

// callTerms does so for the functions that take a polynomial only.
func callTerms(l []int, n int) [][]int {
	value, ok := impl.ValueAt(l, n)
	all := [][]int{{value, asNumber(ok)}}
	p, ok := impl.PointsFor(l, n)
	for _, x := range p {
		all = append(all, []int{x.At, x.Value})
	}
	return append(all, []int{asNumber(ok)})
}

// eachReading gives valid arguments, right points and wrong ones, and invalid arguments.
func eachReading(f func(k int, l []int, p []impl.Point, wrong int)) {
	for k := 1; k <= maxTerms; k++ {
		for n := range maxPlaces + 1 {
			for wrong := -1; wrong <= maxWrong+1; wrong++ {
				l := mixedTerms(k, uint64(n))
				p := pointsIn(l, mixedPlaces(n, uint64(k)))
				f(k, l, p, wrong)
				f(k, l, spoilt(p, numbersFrom(0, min(n, maxWrong)), 54), wrong)
			}
		}
	}
	for _, k := range append([]int{1, 2, 8}, badTerms...) {
		for _, l := range [][]int{nil, {}, {-1}, {257}, {1, 2, 3}, make([]int, 9), {math.MinInt, math.MaxInt}} {
			for _, p := range [][]impl.Point{
				nil, {}, {{}}, {{}, {}}, {{At: -1}}, {{At: 16}}, {{Value: -1}}, {{Value: 257}}, {{At: 3}, {At: 2}},
				{{At: math.MinInt, Value: math.MinInt}, {At: math.MaxInt, Value: math.MaxInt}}, make([]impl.Point, maxPlaces+1),
			} {
				for _, wrong := range []int{math.MinInt, 0, 3, math.MaxInt} {
					f(k, l, p, wrong)
				}
			}
		}
	}
}

// Promise 19: polynomials and points are neither changed nor read behind the length of their list.
func TestPolynomialsAndPointsAreLeftAlone(t *testing.T) {
	eachReading(func(k int, l []int, p []impl.Point, wrong int) {
		terms, allTerms := withTail(l)
		points, allPoints := pointsWithTail(p)
		termsBefore, pointsBefore := slices.Clone(allTerms), slices.Clone(allPoints)
		got := append(callPoints(k, terms, points, wrong), callTerms(terms, len(p))...)
		if !slices.Equal(allTerms, termsBefore) || !slices.Equal(allPoints, pointsBefore) {
			t.Fatal("changed", k, l, p, wrong, allTerms, allPoints)
		}
		clipped := slices.Clip(slices.Clone(l))
		want := append(callPoints(k, clipped, slices.Clip(slices.Clone(p)), wrong), callTerms(clipped, len(p))...)
		if !slices.EqualFunc(got, want, slices.Equal) {
			t.Fatal("read behind the length", k, l, p, wrong, got, want)
		}
	})
}

// One result is overwritten up to its capacity, which must show in no argument and in no later result.
func TestEvaluationCodesReturnNewMemory(t *testing.T) {
	for k := 1; k <= maxTerms; k++ {
		for n := k; n <= maxPlaces; n++ {
			l := mixedTerms(k, uint64(n+55))
			p := pointsIn(l, mixedPlaces(n, 55))
			termsBefore, pointsBefore := slices.Clone(l), slices.Clone(p)
			for _, read := range []func() ([]int, bool){
				func() ([]int, bool) { return impl.FromPoints(k, p) },
				func() ([]int, bool) { return impl.ReadWrong(k, p, 0) },
			} {
				first, _ := read()
				second, _ := read()
				overwrite(first)
				third, _ := read()
				if !slices.Equal(second, l) || !slices.Equal(third, l) || !slices.Equal(p, pointsBefore) {
					t.Fatal(k, p, second, third)
				}
			}
			first, _ := impl.PointsFor(l, n)
			second, _ := impl.PointsFor(l, n)
			clear(first[:cap(first)])
			third, _ := impl.PointsFor(l, n)
			if want := pointsIn(l, numbersFrom(0, n)); !slices.Equal(second, want) || !slices.Equal(third, want) || !slices.Equal(l, termsBefore) {
				t.Fatal("PointsFor", l, second, third)
			}
		}
	}
}
