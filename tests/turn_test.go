package tests

import (
	"math"
	"slices"
	"testing"

	"loop.example/g00647/impl"
)

const (
	maxSize    = 20
	maxQueues  = 5
	maxDue     = 50
	maxSaved   = 99
	maxWaiting = 40
	maxSent    = 1000000
	maxRounds  = 20
)

var (
	badDues   = []int{math.MinInt, math.MinInt + 1, -1 << 32, -50, -2, -1, 0, 51, 52, 100, 257, 1<<32 + 1, 1<<32 + 5, math.MaxInt - 99, math.MaxInt - 1, math.MaxInt}
	badSaveds = []int{math.MinInt, math.MinInt + 1, -1 << 32, -99, -2, -1, 100, 101, 149, 257, 1 << 32, 1<<32 + 1, math.MaxInt - 50, math.MaxInt - 1, math.MaxInt}
	badSizes  = []int{math.MinInt, math.MinInt + 1, -1 << 32, -20, -2, -1, 0, 21, 22, 40, 257, 1<<32 + 1, math.MaxInt - 20, math.MaxInt - 1, math.MaxInt}
	badSents  = []int{math.MinInt, math.MinInt + 1, -1 << 32, -1000000, -2, -1, 1000001, 1000002, 1000020, 1 << 32, 1<<32 + 1, math.MaxInt - 20, math.MaxInt - 1, math.MaxInt}
	badManys  = []int{math.MinInt, math.MinInt + 1, -1 << 32, -20, -2, -1, 21, 22, 40, 257, 1 << 32, 1<<32 + 1, math.MaxInt - 1, math.MaxInt}

	exampleQueues = []impl.Queue{queueOf(5, 0, 0, 3, 4)}
)

func queueOf(due int, saved int, sent int, sizes ...int) impl.Queue {
	return impl.Queue{Due: due, Saved: saved, Sizes: sizes, Sent: sent}
}

// items returns as many items of one size.
func items(many int, size int) []int {
	return slices.Repeat([]int{size}, many)
}

func cloneQueues(l []impl.Queue) []impl.Queue {
	clone := slices.Clone(l)
	for k, q := range l {
		clone[k].Sizes = slices.Clone(q.Sizes)
	}
	return clone
}

func equalQueue(a impl.Queue, b impl.Queue) bool {
	return a.Due == b.Due && a.Saved == b.Saved && a.Sent == b.Sent && slices.Equal(a.Sizes, b.Sizes)
}

func equalQueues(a []impl.Queue, b []impl.Queue) bool {
	return slices.EqualFunc(a, b, equalQueue)
}

func isBetween(least int, n int, most int) bool {
	return least <= n && n <= most
}

func isQueueIn(q impl.Queue) bool {
	for _, size := range q.Sizes {
		if !isBetween(1, size, 20) {
			return false
		}
	}
	isSaved := isBetween(0, q.Saved, 99)
	if len(q.Sizes) == 0 {
		isSaved = q.Saved == 0
	}
	return isSaved && len(q.Sizes) <= 40 && isBetween(1, q.Due, 50) && isBetween(0, q.Sent, 1000000)
}

func areQueuesIn(l []impl.Queue) bool {
	for _, q := range l {
		if !isQueueIn(q) {
			return false
		}
	}
	return isBetween(1, len(l), 5)
}

// roundIn goes from item to item.
func roundIn(l []impl.Queue) ([]impl.Queue, []int) {
	after := cloneQueues(l)
	var who []int
	for k, q := range after {
		if len(q.Sizes) == 0 {
			continue
		}
		q.Saved += q.Due
		for len(q.Sizes) > 0 && q.Sizes[0] <= q.Saved {
			q.Saved -= q.Sizes[0]
			q.Sent += q.Sizes[0]
			q.Sizes = q.Sizes[1:]
			who = append(who, k)
		}
		if len(q.Sizes) == 0 {
			q.Saved = 0
		}
		after[k] = q
	}
	return after, who
}

func roundsIn(l []impl.Queue, many int) ([]impl.Queue, []int) {
	after := cloneQueues(l)
	var who []int
	for range many {
		next, sent := roundIn(after)
		after, who = next, append(who, sent...)
	}
	return after, who
}

func leftIn(l []impl.Queue) int {
	left := 0
	for _, q := range l {
		left += sumOfSizes(q.Sizes)
	}
	return left
}

func sumOfSizes(sizes []int) int {
	sum := 0
	for _, size := range sizes {
		sum += size
	}
	return sum
}

func addSizeIn(l []impl.Queue, k int, size int) []impl.Queue {
	after := cloneQueues(l)
	after[k].Sizes = append(after[k].Sizes, size)
	return after
}

// mixedQueues holds queues with quanta, deficits, items and sizes up to the given ones; some of them are empty.
func mixedQueues(count int, seed uint64, due int, saved int, longest int, size int) []impl.Queue {
	var l []impl.Queue
	for k := range count {
		numbers := mixedRows(16, 4+longest, seed*16+uint64(k))
		q := queueOf(numbers[0]%due+1, 0, numbers[1]*10)
		for _, n := range numbers[4:][:numbers[2]%(longest+1)] {
			q.Sizes = append(q.Sizes, n%size+1)
		}
		if len(q.Sizes) > 0 {
			q.Saved = numbers[3] % (saved + 1)
		}
		l = append(l, q)
	}
	return l
}

// eachQueues gives lists of all numbers of queues: slow and fast ones, with few and many items, small and large, with and without deficits.
func eachQueues(f func(l []impl.Queue)) {
	for count := 1; count <= maxQueues; count++ {
		for k := range 6 {
			seed := uint64(count*100 + k*10)
			f(mixedQueues(count, seed, 1, 0, 3, 20))
			f(mixedQueues(count, seed+1, 3, 19, 10, 20))
			f(mixedQueues(count, seed+2, 50, 99, 40, 20))
			f(mixedQueues(count, seed+3, 5, 3, 40, 5))
			f(mixedQueues(count, seed+4, 20, 20, 20, 20))
			f(mixedQueues(count, seed+5, 2, 0, 1, 20))
			f(mixedQueues(count, seed+6, 1, 0, 40, 1))
		}
		f(slices.Repeat([]impl.Queue{queueOf(50, 99, 0, items(40, 20)...)}, count))
		f(slices.Repeat([]impl.Queue{queueOf(1, 0, 0, items(40, 20)...)}, count))
		f(slices.Repeat([]impl.Queue{queueOf(50, 0, 9)}, count))
		f(slices.Repeat([]impl.Queue{queueOf(1, 99, 0, items(40, 1)...)}, count))
	}
}

// eachSmallQueue gives all queues with quanta up to 3, up to 3 items of 1..4 and deficits up to 5.
func eachSmallQueue(f func(q impl.Queue)) {
	lists := [][]int{nil}
	for first := 0; first < len(lists); first++ {
		if l := lists[first]; len(l) < 3 {
			for size := 1; size <= 4; size++ {
				lists = append(lists, append(slices.Clone(l), size))
			}
		}
	}
	for due := 1; due <= 3; due++ {
		for _, l := range lists {
			for saved := 0; saved <= 5 && (saved == 0 || len(l) > 0); saved++ {
				f(queueOf(due, saved, 0, l...))
			}
		}
	}
}

// eachSmallQueues gives the small queues alone, and among two others.
func eachSmallQueues(f func(l []impl.Queue)) {
	eachSmallQueue(func(q impl.Queue) {
		f([]impl.Queue{q})
		f([]impl.Queue{queueOf(2, 1, 7, 4, 1, 2), q, queueOf(3, 0, 9)})
		f([]impl.Queue{queueOf(1, 0, 9), queueOf(1, 2, 8, 4, 4), q})
	})
}

// eachFullQueues gives lists of which a queue may reach the limit of Sent, or exceed it, in each of the 20 rounds.
func eachFullQueues(f func(l []impl.Queue)) {
	for less := range 45 {
		sent := maxSent - less
		f([]impl.Queue{queueOf(1, 0, sent, items(40, 1)...)})
		f([]impl.Queue{queueOf(2, 0, sent, items(40, 1)...)})
		f([]impl.Queue{queueOf(3, 1, sent, 5, 4, 20, 1, 7, 3)})
		f([]impl.Queue{queueOf(3, 1, sent, 5, 4, 20), queueOf(5, 0, 0, items(40, 3)...)})
		f([]impl.Queue{queueOf(5, 0, 0, items(40, 3)...), queueOf(2, 0, sent), queueOf(3, 1, sent, 5, 4, 20)})
		f([]impl.Queue{queueOf(50, 99, sent, 20, 20), queueOf(1, 0, maxSent, 20, 1)})
	}
}

func checkRound(t *testing.T, l []impl.Queue, want []impl.Queue, wantWho []int) {
	t.Helper()
	after, who, ok := impl.RoundOf(l)
	if !equalQueues(after, want) || !slices.Equal(who, wantWho) || !ok || !impl.GoodQueues(after) {
		t.Fatalf("%v: %v %v %v, not %v %v", l, after, who, ok, want, wantWho)
	}
}

func checkRounds(t *testing.T, l []impl.Queue, many int, want []impl.Queue, wantWho []int) {
	t.Helper()
	after, who, ok := impl.RoundsOf(l, many)
	if !equalQueues(after, want) || !slices.Equal(who, wantWho) || !ok || !impl.GoodQueues(after) {
		t.Fatalf("%v %d: %v %v %v, not %v %v", l, many, after, who, ok, want, wantWho)
	}
}

func checkAdded(t *testing.T, l []impl.Queue, k int, size int, want []impl.Queue) {
	t.Helper()
	if after, ok := impl.AddSize(l, k, size); !equalQueues(after, want) || !ok || !impl.GoodQueues(after) {
		t.Fatalf("%v %d %d: %v %v, not %v", l, k, size, after, ok, want)
	}
}

func checkLeft(t *testing.T, l []impl.Queue, want int) {
	t.Helper()
	if left, ok := impl.LeftOf(l); left != want || !ok {
		t.Fatalf("%v: %d %v, not %d", l, left, ok, want)
	}
}

func isNoQueue(q impl.Queue) bool {
	return equalQueue(q, impl.Queue{})
}

func areNoQueues(l []impl.Queue) bool {
	return len(l) == 0
}

func refuseRound(t *testing.T, l []impl.Queue) {
	t.Helper()
	after, who, ok := impl.RoundOf(l)
	refuse(t, "RoundOf", areNoQueues, after, ok, l)
	if len(who) != 0 {
		t.Fatal("RoundOf", l, who)
	}
}

func refuseRounds(t *testing.T, l []impl.Queue, many int) {
	t.Helper()
	after, who, ok := impl.RoundsOf(l, many)
	refuse(t, "RoundsOf", areNoQueues, after, ok, l, many)
	if len(who) != 0 {
		t.Fatal("RoundsOf", l, many, who)
	}
}

func refuseNewQueue(t *testing.T, due int, sizes []int) {
	t.Helper()
	q, ok := impl.NewQueue(due, sizes)
	refuse(t, "NewQueue", isNoQueue, q, ok, due, sizes)
}

func refuseAdded(t *testing.T, l []impl.Queue, k int, size int) {
	t.Helper()
	after, ok := impl.AddSize(l, k, size)
	refuse(t, "AddSize", areNoQueues, after, ok, l, k, size)
}

// refuseQueues gives the list to every function that takes one, with other arguments that would be valid.
func refuseQueues(t *testing.T, l []impl.Queue) {
	t.Helper()
	if impl.GoodQueues(l) {
		t.Fatalf("GoodQueues %#v", l)
	}
	refuseRound(t, l)
	for _, many := range []int{0, 1, 2, 20} {
		refuseRounds(t, l, many)
	}
	for k := range max(len(l), 1) {
		refuseAdded(t, l, k, 1)
		refuseAdded(t, l, k, 20)
	}
	left, ok := impl.LeftOf(l)
	refuse(t, "LeftOf", isZero, left, ok, l)
}

func TestTurnConstants(t *testing.T) {
	if impl.MaxSize != maxSize {
		t.Fatal(impl.MaxSize)
	}
}

// itemLists have up to 40 items of valid sizes.
func itemLists() [][]int {
	lists := [][]int{nil, {}, {1}, {20}, {3, 4}, {20, 1}, {1, 20, 7}, items(39, 20), items(40, 1), items(40, 20)}
	for size := 1; size <= maxSize; size++ {
		lists = append(lists, []int{size}, []int{20, size, 1})
	}
	for many := range maxWaiting + 1 {
		lists = append(lists, items(many, many%20+1))
	}
	return lists
}

func TestNewQueue(t *testing.T) {
	for due := -3; due <= maxDue+3; due++ {
		for _, sizes := range itemLists() {
			if due < 1 || due > 50 {
				refuseNewQueue(t, due, sizes)
				continue
			}
			q, ok := impl.NewQueue(due, sizes)
			if !equalQueue(q, queueOf(due, 0, 0, sizes...)) || !ok || !impl.GoodQueues([]impl.Queue{q}) {
				t.Fatal(due, sizes, q, ok)
			}
		}
	}
}

func TestGoodQueues(t *testing.T) {
	check := func(l []impl.Queue) {
		t.Helper()
		if !impl.GoodQueues(l) {
			t.Fatalf("%#v", l)
		}
	}
	eachQueues(check)
	eachSmallQueues(check)
	eachFullQueues(check)
	for due := -2; due <= maxDue+2; due++ {
		for saved := -2; saved <= maxSaved+2; saved++ {
			for _, sizes := range [][]int{nil, {}, {20}, items(40, 1)} {
				q := queueOf(due, saved, 0, sizes...)
				if is := impl.GoodQueues([]impl.Queue{q}); is != isQueueIn(q) {
					t.Fatal(q, is)
				}
			}
		}
	}
	for many := range maxWaiting + 3 {
		for size := -1; size <= maxSize+2; size++ {
			q := queueOf(1, 0, maxSent, items(many, size)...)
			if is := impl.GoodQueues([]impl.Queue{q}); is != isQueueIn(q) {
				t.Fatal(q, is)
			}
		}
	}
	for count := range maxQueues + 3 {
		for _, q := range []impl.Queue{queueOf(1, 0, 0), queueOf(50, 99, maxSent, items(40, 20)...)} {
			if is := impl.GoodQueues(slices.Repeat([]impl.Queue{q}, count)); is != (count >= 1 && count <= 5) {
				t.Fatal(count, q, is)
			}
		}
	}
}

// Worked out apart from the program.
func TestKnownRounds(t *testing.T) {
	for _, x := range []struct {
		l     []impl.Queue
		after []impl.Queue
		who   []int
	}{
		{exampleQueues, []impl.Queue{queueOf(5, 2, 3, 4)}, []int{0}},
		{[]impl.Queue{queueOf(5, 2, 3, 4)}, []impl.Queue{queueOf(5, 0, 7)}, []int{0}},
		{[]impl.Queue{queueOf(5, 0, 0, 5, 1)}, []impl.Queue{queueOf(5, 0, 5, 1)}, []int{0}},
		{[]impl.Queue{queueOf(5, 0, 0, 6, 1)}, []impl.Queue{queueOf(5, 5, 0, 6, 1)}, nil},
		{[]impl.Queue{queueOf(5, 5, 0, 6, 1)}, []impl.Queue{queueOf(5, 0, 7)}, []int{0, 0}},
		{[]impl.Queue{queueOf(5, 0, 0, 20, 1)}, []impl.Queue{queueOf(5, 5, 0, 20, 1)}, nil},
		{[]impl.Queue{queueOf(5, 0, 0, 5)}, []impl.Queue{queueOf(5, 0, 5)}, []int{0}},
		{[]impl.Queue{queueOf(5, 0, 0, 4)}, []impl.Queue{queueOf(5, 0, 4)}, []int{0}},
		{[]impl.Queue{queueOf(5, 0, 0, 2, 2)}, []impl.Queue{queueOf(5, 0, 4)}, []int{0, 0}},
		{[]impl.Queue{queueOf(5, 0, 0, 2, 2, 2)}, []impl.Queue{queueOf(5, 1, 4, 2)}, []int{0, 0}},
		{[]impl.Queue{queueOf(5, 0, 0)}, []impl.Queue{queueOf(5, 0, 0)}, nil},
		{[]impl.Queue{queueOf(50, 0, 9)}, []impl.Queue{queueOf(50, 0, 9)}, nil},
		{[]impl.Queue{queueOf(1, 0, 0, 20)}, []impl.Queue{queueOf(1, 1, 0, 20)}, nil},
		{[]impl.Queue{queueOf(1, 18, 0, 20)}, []impl.Queue{queueOf(1, 19, 0, 20)}, nil},
		{[]impl.Queue{queueOf(1, 19, 0, 20)}, []impl.Queue{queueOf(1, 0, 20)}, []int{0}},
		{[]impl.Queue{queueOf(1, 20, 0, 20, 20)}, []impl.Queue{queueOf(1, 1, 20, 20)}, []int{0}},
		{[]impl.Queue{queueOf(50, 0, 0, 20, 20, 20)}, []impl.Queue{queueOf(50, 10, 40, 20)}, []int{0, 0}},
		{[]impl.Queue{queueOf(50, 99, 0, items(40, 1)...)}, []impl.Queue{queueOf(50, 0, 40)}, items(40, 0)},
		{[]impl.Queue{queueOf(50, 99, 0, items(40, 20)...)}, []impl.Queue{queueOf(50, 9, 140, items(33, 20)...)}, items(7, 0)},
		{[]impl.Queue{queueOf(50, 99, 0, items(8, 20)...)}, []impl.Queue{queueOf(50, 9, 140, 20)}, items(7, 0)},
		{[]impl.Queue{queueOf(50, 99, 0, items(7, 20)...)}, []impl.Queue{queueOf(50, 0, 140)}, items(7, 0)},
		{[]impl.Queue{queueOf(1, 99, 0, items(6, 20)...)}, []impl.Queue{queueOf(1, 0, 100, 20)}, items(5, 0)},
		{[]impl.Queue{queueOf(1, 0, 999999, 1)}, []impl.Queue{queueOf(1, 0, 1000000)}, []int{0}},
		{[]impl.Queue{queueOf(5, 0, 999995, 5, 1)}, []impl.Queue{queueOf(5, 0, 1000000, 1)}, []int{0}},
		{[]impl.Queue{queueOf(50, 99, 999860, items(9, 20)...)}, []impl.Queue{queueOf(50, 9, 1000000, 20, 20)}, items(7, 0)},
		{[]impl.Queue{queueOf(1, 0, 1000000, 2)}, []impl.Queue{queueOf(1, 1, 1000000, 2)}, nil},
		{[]impl.Queue{queueOf(1, 0, 1000000)}, []impl.Queue{queueOf(1, 0, 1000000)}, nil},
		{
			[]impl.Queue{queueOf(5, 0, 0, 3, 4), queueOf(5, 0, 2), queueOf(1, 0, 0, 1), queueOf(50, 99, 0, items(8, 20)...)},
			[]impl.Queue{queueOf(5, 2, 3, 4), queueOf(5, 0, 2), queueOf(1, 0, 1), queueOf(50, 9, 140, 20)},
			[]int{0, 2, 3, 3, 3, 3, 3, 3, 3},
		},
		{
			[]impl.Queue{queueOf(1, 0, 0, 1, 1), queueOf(2, 0, 0, 1, 1), queueOf(3, 0, 0, 1, 1), queueOf(4, 0, 0, 5), queueOf(5, 0, 0, 5)},
			[]impl.Queue{queueOf(1, 0, 1, 1), queueOf(2, 0, 2), queueOf(3, 0, 2), queueOf(4, 4, 0, 5), queueOf(5, 0, 5)},
			[]int{0, 1, 1, 2, 2, 4},
		},
		{
			[]impl.Queue{queueOf(9, 0, 1), queueOf(9, 0, 2), queueOf(9, 0, 3), queueOf(9, 0, 4), queueOf(9, 0, 5, 10, 9)},
			[]impl.Queue{queueOf(9, 0, 1), queueOf(9, 0, 2), queueOf(9, 0, 3), queueOf(9, 0, 4), queueOf(9, 9, 5, 10, 9)},
			nil,
		},
	} {
		checkRound(t, x.l, x.after, x.who)
		checkRounds(t, x.l, 1, x.after, x.who)
	}
}

// Worked out apart from the program.
func TestKnownSequencesOfRounds(t *testing.T) {
	two := []impl.Queue{queueOf(2, 0, 0, 3, 3, 3), queueOf(3, 0, 0, 3, 3, 3)}
	large := []impl.Queue{queueOf(50, 0, 0, items(40, 20)...)}
	small := []impl.Queue{queueOf(2, 0, 0, items(40, 1)...)}
	slow := []impl.Queue{queueOf(1, 0, 0, 20)}
	full := []impl.Queue{queueOf(5, 0, 999993, 3, 4)}
	for _, x := range []struct {
		l     []impl.Queue
		many  int
		after []impl.Queue
		who   []int
	}{
		{exampleQueues, 0, exampleQueues, nil},
		{exampleQueues, 1, []impl.Queue{queueOf(5, 2, 3, 4)}, []int{0}},
		{exampleQueues, 2, []impl.Queue{queueOf(5, 0, 7)}, []int{0, 0}},
		{exampleQueues, 3, []impl.Queue{queueOf(5, 0, 7)}, []int{0, 0}},
		{exampleQueues, 20, []impl.Queue{queueOf(5, 0, 7)}, []int{0, 0}},
		{two, 1, []impl.Queue{queueOf(2, 2, 0, 3, 3, 3), queueOf(3, 0, 3, 3, 3)}, []int{1}},
		{two, 2, []impl.Queue{queueOf(2, 1, 3, 3, 3), queueOf(3, 0, 6, 3)}, []int{1, 0, 1}},
		{two, 3, []impl.Queue{queueOf(2, 0, 6, 3), queueOf(3, 0, 9)}, []int{1, 0, 1, 0, 1}},
		{two, 4, []impl.Queue{queueOf(2, 2, 6, 3), queueOf(3, 0, 9)}, []int{1, 0, 1, 0, 1}},
		{two, 5, []impl.Queue{queueOf(2, 0, 9), queueOf(3, 0, 9)}, []int{1, 0, 1, 0, 1, 0}},
		{two, 20, []impl.Queue{queueOf(2, 0, 9), queueOf(3, 0, 9)}, []int{1, 0, 1, 0, 1, 0}},
		{large, 15, []impl.Queue{queueOf(50, 10, 740, 20, 20, 20)}, items(37, 0)},
		{large, 16, []impl.Queue{queueOf(50, 0, 800)}, items(40, 0)},
		{small, 19, []impl.Queue{queueOf(2, 0, 38, 1, 1)}, items(38, 0)},
		{small, 20, []impl.Queue{queueOf(2, 0, 40)}, items(40, 0)},
		{slow, 0, slow, nil},
		{slow, 1, []impl.Queue{queueOf(1, 1, 0, 20)}, nil},
		{slow, 19, []impl.Queue{queueOf(1, 19, 0, 20)}, nil},
		{slow, 20, []impl.Queue{queueOf(1, 0, 20)}, []int{0}},
		{full, 0, full, nil},
		{full, 1, []impl.Queue{queueOf(5, 2, 999996, 4)}, []int{0}},
		{full, 2, []impl.Queue{queueOf(5, 0, 1000000)}, []int{0, 0}},
		{full, 20, []impl.Queue{queueOf(5, 0, 1000000)}, []int{0, 0}},
		{[]impl.Queue{queueOf(5, 0, 999994, 3, 4)}, 1, []impl.Queue{queueOf(5, 2, 999997, 4)}, []int{0}},
		{[]impl.Queue{queueOf(1, 99, 0, 5)}, 0, []impl.Queue{queueOf(1, 99, 0, 5)}, nil},
		{[]impl.Queue{queueOf(50, 0, 1000000), queueOf(1, 0, 0)}, 20, []impl.Queue{queueOf(50, 0, 1000000), queueOf(1, 0, 0)}, nil},
	} {
		checkRounds(t, x.l, x.many, x.after, x.who)
	}
}

// Worked out apart from the program.
func TestKnownRoundsThatSendTooMuch(t *testing.T) {
	for _, x := range []struct {
		l     []impl.Queue
		first int
	}{
		{[]impl.Queue{queueOf(1, 0, 1000000, 1)}, 1},
		{[]impl.Queue{queueOf(1, 0, 1000000, 20)}, 20},
		{[]impl.Queue{queueOf(5, 0, 999998, 3, 4)}, 1},
		{[]impl.Queue{queueOf(5, 0, 999994, 3, 4)}, 2},
		{[]impl.Queue{queueOf(50, 99, 999861, items(9, 20)...)}, 1},
		{[]impl.Queue{queueOf(5, 0, 0, 3), queueOf(2, 0, 1000000, 5)}, 3},
		{[]impl.Queue{queueOf(2, 0, 1000000, 7), queueOf(5, 0, 0, 3)}, 4},
		{[]impl.Queue{queueOf(1, 0, 0, 1), queueOf(1, 0, 0, 1), queueOf(1, 0, 0, 1), queueOf(1, 0, 0, 1), queueOf(1, 0, 999981, 20, 20)}, 20},
		{[]impl.Queue{queueOf(20, 0, 999980, 20, 20)}, 2},
	} {
		for many := range maxRounds + 1 {
			if many >= x.first {
				refuseRounds(t, x.l, many)
			} else if _, _, ok := impl.RoundsOf(x.l, many); !ok {
				t.Fatal(x.l, many)
			}
		}
		if x.first == 1 {
			refuseRound(t, x.l)
		}
	}
}

func TestRoundOf(t *testing.T) {
	some, all, none, idle := 0, 0, 0, 0
	check := func(l []impl.Queue) {
		t.Helper()
		after, who := roundIn(l)
		if !areQueuesIn(after) {
			refuseRound(t, l)
			return
		}
		checkRound(t, l, after, who)
		for k, q := range after {
			switch {
			case len(l[k].Sizes) == 0:
				idle++
			case len(q.Sizes) == 0:
				all++
			case len(q.Sizes) == len(l[k].Sizes):
				none++
			default:
				some++
			}
		}
	}
	eachQueues(check)
	eachSmallQueues(check)
	eachFullQueues(check)
	if min(some, all, none, idle) < 100 {
		t.Fatal("too few of one kind", some, all, none, idle)
	}
}

func TestRoundsOf(t *testing.T) {
	eachQueues(func(l []impl.Queue) {
		for many := range maxRounds + 1 {
			after, who := roundsIn(l, many)
			checkRounds(t, l, many, after, who)
		}
	})
	eachSmallQueues(func(l []impl.Queue) {
		for _, many := range []int{0, 1, 2, 3, 5, 11, 20} {
			after, who := roundsIn(l, many)
			checkRounds(t, l, many, after, who)
		}
	})
}

// The result is valid up to the round that reaches the limit of Sent, and not from the round on that exceeds it.
func TestRoundsUpToTheLimitOfSent(t *testing.T) {
	reached, exceeded := 0, 0
	eachFullQueues(func(l []impl.Queue) {
		for many := range maxRounds + 1 {
			after, who := roundsIn(l, many)
			if !areQueuesIn(after) {
				refuseRounds(t, l, many)
				exceeded++
				continue
			}
			checkRounds(t, l, many, after, who)
			for _, q := range after {
				reached += asNumber(q.Sent == maxSent)
			}
		}
	})
	if min(reached, exceeded) < 100 {
		t.Fatal("too few of one kind", reached, exceeded)
	}
}

// Rounds performed in two parts, and one by one, are the rounds performed at once.
func TestRoundsInParts(t *testing.T) {
	check := func(l []impl.Queue) {
		t.Helper()
		for _, many := range []int{1, 2, 3, 7, 20} {
			whole, all, _ := impl.RoundsOf(l, many)
			for first := range many + 1 {
				half, who, _ := impl.RoundsOf(l, first)
				after, rest, ok := impl.RoundsOf(half, many-first)
				if !ok || !equalQueues(after, whole) || !slices.Equal(slices.Concat(who, rest), all) {
					t.Fatal(l, many, first, after, who, rest)
				}
			}
		}
		step := cloneQueues(l)
		var all []int
		for many := range maxRounds {
			checkRounds(t, l, many, step, all)
			next, who, _ := impl.RoundOf(step)
			step, all = next, append(all, who...)
		}
		checkRounds(t, l, maxRounds, step, all)
	}
	eachQueues(check)
	eachSmallQueue(func(q impl.Queue) { check([]impl.Queue{q}) })
}

// timesSent counts the items of the queue with index k.
func timesSent(who []int, k int) int {
	times := 0
	for _, index := range who {
		times += asNumber(index == k)
	}
	return times
}

// The items of each queue leave it from the front, as many as the list of indexes says; in one round, the queues take their turns in order; and Sent grows by what is sent.
func TestItemsAreSentInOrder(t *testing.T) {
	eachQueues(func(l []impl.Queue) {
		for _, many := range []int{1, 2, 5, 20} {
			after, who, ok := impl.RoundsOf(l, many)
			if !ok || len(after) != len(l) || many == 1 && !slices.IsSorted(who) {
				t.Fatal(l, many, after, who)
			}
			left := leftIn(l)
			for k, q := range after {
				times := timesSent(who, k)
				sent := sumOfSizes(l[k].Sizes[:times])
				if !slices.Equal(q.Sizes, l[k].Sizes[times:]) || q.Due != l[k].Due || q.Sent != l[k].Sent+sent {
					t.Fatal(l, many, k, q, who)
				}
				left -= sent
			}
			checkLeft(t, after, left)
		}
	})
}

// A queue sends its items as soon as its deficit suffices, and keeps less than its first item needs.
func TestQueuesSendWhatTheyCan(t *testing.T) {
	eachQueues(func(l []impl.Queue) {
		for many := 1; many <= maxRounds; many++ {
			after, _, _ := impl.RoundsOf(l, many)
			for k, q := range after {
				if len(q.Sizes) > 0 && q.Saved >= q.Sizes[0] || len(q.Sizes) == 0 && q.Saved != 0 {
					t.Fatal(l, many, k, q)
				}
			}
		}
	})
}

// The deficit suffices for the first item only after several rounds.
func TestQueuesWaitForTheirDeficit(t *testing.T) {
	for due := 1; due <= maxSize; due++ {
		for size := 1; size <= maxSize; size++ {
			l := []impl.Queue{queueOf(due, 0, 0, size, 20, 20), queueOf(50, 0, 3)}
			for many := 1; many*due < size; many++ {
				checkRounds(t, l, many, []impl.Queue{queueOf(due, many*due, 0, size, 20, 20), queueOf(50, 0, 3)}, nil)
			}
			_, who, ok := impl.RoundsOf(l, (size+due-1)/due)
			if len(who) == 0 || who[0] != 0 || !ok {
				t.Fatal(due, size, who)
			}
		}
	}
}

// A queue loses its deficit with its last item, and saves none while it is empty.
func TestEmptyQueuesSaveNothing(t *testing.T) {
	l := []impl.Queue{queueOf(5, 0, 0, 3, 4), queueOf(50, 0, 0), queueOf(1, 0, 0, 20, 20)}
	l, _, _ = impl.RoundsOf(l, 10)
	l, _ = impl.AddSize(l, 0, 6)
	l, _ = impl.AddSize(l, 1, 20)
	l, _ = impl.AddSize(l, 1, 20)
	l, _ = impl.AddSize(l, 1, 20)
	checkRound(t, l, []impl.Queue{queueOf(5, 5, 7, 6), queueOf(50, 10, 40, 20), queueOf(1, 11, 0, 20, 20)}, []int{1, 1})
	checkRounds(t, l, 2, []impl.Queue{queueOf(5, 0, 13), queueOf(50, 0, 60), queueOf(1, 12, 0, 20, 20)}, []int{1, 1, 0, 1})
	for due := 1; due <= maxDue; due++ {
		for _, many := range []int{1, 2, 20} {
			empty := []impl.Queue{queueOf(due, 0, 5)}
			checkRounds(t, empty, many, empty, nil)
			after, _, _ := impl.RoundsOf([]impl.Queue{queueOf(due, 99, 0, 1), queueOf(1, 0, 0, 20)}, many)
			if after[0].Saved != 0 || after[0].Sent != 1 {
				t.Fatal(due, many, after)
			}
		}
	}
}

// Each queue of a list does what it does alone.
func TestQueuesDoNotDependOnEachOther(t *testing.T) {
	eachQueues(func(l []impl.Queue) {
		for _, many := range []int{1, 3, 20} {
			after, who, _ := impl.RoundsOf(l, many)
			for k := range l {
				checkRounds(t, l[k:k+1], many, after[k:k+1], items(timesSent(who, k), 0))
			}
		}
	})
}

func TestAddSize(t *testing.T) {
	check := func(l []impl.Queue) {
		t.Helper()
		for k := range l {
			for _, size := range []int{1, 2, 19, 20} {
				if len(l[k].Sizes) == maxWaiting {
					refuseAdded(t, l, k, size)
				} else {
					checkAdded(t, l, k, size, addSizeIn(l, k, size))
				}
			}
		}
	}
	eachQueues(check)
	eachSmallQueues(check)
	eachFullQueues(check)
	for size := 1; size <= maxSize; size++ {
		checkAdded(t, exampleQueues, 0, size, []impl.Queue{queueOf(5, 0, 0, 3, 4, size)})
		checkAdded(t, []impl.Queue{queueOf(1, 0, 9), queueOf(2, 0, 8)}, 0, size, []impl.Queue{queueOf(1, 0, 9, size), queueOf(2, 0, 8)})
		checkAdded(t, []impl.Queue{queueOf(1, 0, 9), queueOf(2, 0, 8)}, 1, size, []impl.Queue{queueOf(1, 0, 9), queueOf(2, 0, 8, size)})
	}
}

// A queue takes items until there are 40; a queue beside it that is full does not matter.
func TestAddSizeUntilTheQueueIsFull(t *testing.T) {
	for count := 1; count <= maxQueues; count++ {
		for k := range count {
			l := slices.Repeat([]impl.Queue{queueOf(7, 50, 3, items(40, 2)...)}, count)
			l[k] = queueOf(7, 0, 3)
			var sizes []int
			for many := range maxWaiting {
				size := many%maxSize + 1
				sizes = append(sizes, size)
				want := cloneQueues(l)
				want[k].Sizes = slices.Clone(sizes)
				checkAdded(t, l, k, size, want)
				l = want
			}
			for size := 1; size <= maxSize; size++ {
				refuseAdded(t, l, k, size)
			}
		}
	}
}

// An item that is added is sent after those that waited before it.
func TestAddedItemsAreSentLast(t *testing.T) {
	eachQueues(func(l []impl.Queue) {
		for k, q := range l {
			if len(q.Sizes) == maxWaiting {
				continue
			}
			after, _ := impl.AddSize(l, k, 20)
			for _, many := range []int{1, 4, 20} {
				want, who := roundsIn(addSizeIn(l, k, 20), many)
				checkRounds(t, after, many, want, who)
			}
		}
	})
}

// Worked out apart from the program.
func TestKnownSumsOfItems(t *testing.T) {
	for _, x := range []struct {
		l    []impl.Queue
		left int
	}{
		{exampleQueues, 7},
		{[]impl.Queue{queueOf(5, 2, 3, 4)}, 4},
		{[]impl.Queue{queueOf(5, 0, 7)}, 0},
		{[]impl.Queue{queueOf(5, 0, 7), queueOf(50, 0, 1000000), queueOf(1, 0, 0)}, 0},
		{slices.Repeat([]impl.Queue{queueOf(50, 99, 1000000, items(40, 20)...)}, 5), 4000},
		{slices.Repeat([]impl.Queue{queueOf(1, 0, 0, items(40, 1)...)}, 5), 200},
		{slices.Repeat([]impl.Queue{queueOf(1, 0, 0)}, 5), 0},
		{[]impl.Queue{queueOf(1, 0, 0, 1)}, 1},
		{[]impl.Queue{queueOf(1, 0, 0, 20)}, 20},
		{[]impl.Queue{queueOf(1, 0, 0), queueOf(1, 3, 5, 1, 2, 3), queueOf(1, 0, 9), queueOf(1, 9, 9, 20), queueOf(1, 0, 9, 7)}, 33},
	} {
		checkLeft(t, x.l, x.left)
	}
}

func TestLeftOf(t *testing.T) {
	check := func(l []impl.Queue) {
		t.Helper()
		checkLeft(t, l, leftIn(l))
	}
	eachQueues(check)
	eachSmallQueues(check)
	eachFullQueues(check)
}

// checkShares checks promise 14 for each sequence of rounds, after each of which the queue with index k is not empty. states holds the queues before the first round and after each of them; who, for each round, the indexes of the sent items; sizes, all items that the queue ever had. It returns the number of sequences.
func checkShares(t *testing.T, states [][]impl.Queue, who [][]int, k int, sizes []int) int {
	t.Helper()
	sequences, front := 0, 0
	fronts := []int{0}
	for _, indexes := range who {
		front += timesSent(indexes, k)
		fronts = append(fronts, front)
	}
	for first := range states {
		for last := first + 1; last < len(states) && len(states[last][k].Sizes) > 0; last++ {
			before, after := states[first][k], states[last][k]
			want := (last-first)*before.Due + before.Saved - after.Saved
			sent := sumOfSizes(sizes[fronts[first]:fronts[last]])
			if sent != want || after.Sent-before.Sent != want {
				t.Fatal("sends other than its share", states[first], states[last], k, sent, want)
			}
			sequences++
		}
	}
	return sequences
}

// Promise 14, for all sequences of up to 20 rounds, performed one by one and at once.
func TestQueuesSendTheirShares(t *testing.T) {
	sequences := 0
	check := func(l []impl.Queue) {
		t.Helper()
		var steps, jumps [][]impl.Queue
		var who [][]int
		step := l
		for many := range maxRounds + 1 {
			jump, _, ok := impl.RoundsOf(l, many)
			if !ok {
				t.Fatal(l, many)
			}
			steps, jumps = append(steps, step), append(jumps, jump)
			if many < maxRounds {
				next, sent, _ := impl.RoundOf(step)
				step, who = next, append(who, sent)
			}
		}
		for k, q := range l {
			sequences += checkShares(t, steps, who, k, q.Sizes) + checkShares(t, jumps, who, k, q.Sizes)
		}
	}
	eachQueues(check)
	eachSmallQueues(check)
	if sequences < 10000 {
		t.Fatal("too few sequences", sequences)
	}
}

// Promise 14, where items are added between the rounds, also to queues that became empty.
func TestQueuesSendTheirSharesOfAddedItems(t *testing.T) {
	sequences := 0
	eachQueues(func(l []impl.Queue) {
		step := l
		states := [][]impl.Queue{l}
		var who [][]int
		sizes := make([][]int, len(l))
		for k, q := range l {
			sizes[k] = slices.Clone(q.Sizes)
		}
		for at, n := range mixedRows(16, 120, uint64(leftIn(l))) {
			k, size := n%len(l), n/8%maxSize+1
			if at%4 > 0 && len(step[k].Sizes) < maxWaiting {
				next, ok := impl.AddSize(step, k, size)
				if !ok {
					t.Fatal(step, k, size)
				}
				step, sizes[k] = next, append(sizes[k], size)
			} else {
				next, sent, ok := impl.RoundOf(step)
				if !ok {
					t.Fatal(step)
				}
				step, who, states = next, append(who, sent), append(states, next)
			}
		}
		for k := range l {
			sequences += checkShares(t, states, who, k, sizes[k])
		}
	})
	if sequences < 10000 {
		t.Fatal("too few sequences", sequences)
	}
}

// badQueues have one number that is not valid, or an empty queue's deficit.
func badQueues() []impl.Queue {
	var l []impl.Queue
	for _, sizes := range [][]int{nil, {}, {5}, {20, 1}, items(40, 20)} {
		for _, due := range badDues {
			l = append(l, queueOf(due, 0, 0, sizes...))
		}
		for _, saved := range badSaveds {
			l = append(l, queueOf(5, saved, 0, sizes...))
		}
		for _, sent := range badSents {
			l = append(l, queueOf(5, 0, sent, sizes...))
		}
	}
	for _, saved := range []int{1, 2, 50, 98, 99} {
		l = append(l, queueOf(5, saved, 0), queueOf(50, saved, 10, []int{}...))
	}
	for _, size := range badSizes {
		for _, sizes := range [][]int{nil, {5}, {20, 1, 7}, items(39, 20)} {
			for _, at := range []int{0, len(sizes) / 2, len(sizes)} {
				l = append(l, queueOf(5, 0, 0, slices.Insert(slices.Clone(sizes), at, size)...))
			}
		}
	}
	for _, many := range []int{41, 42, 80, 296} {
		l = append(l, queueOf(5, 0, 0, items(many, 1)...), queueOf(50, 99, 1000000, items(many, 20)...), queueOf(5, 0, 0, items(many, 0)...))
	}
	return append(l, impl.Queue{})
}

func TestOtherQueuesAreRefused(t *testing.T) {
	for _, bad := range badQueues() {
		refuseQueues(t, []impl.Queue{bad})
	}
}

// A queue that is not valid at the first, a middle and the last place of lists of 1 to 5 queues.
func TestOneOtherQueueIsRefused(t *testing.T) {
	for _, bad := range badQueues() {
		for count := 1; count <= maxQueues; count++ {
			for _, q := range []impl.Queue{queueOf(5, 0, 0, 3, 4), queueOf(1, 0, 7)} {
				for _, at := range []int{0, count / 2, count - 1} {
					l := slices.Repeat([]impl.Queue{q}, count)
					l[at] = bad
					refuseQueues(t, l)
				}
			}
		}
	}
}

func TestOtherNumbersOfQueuesAreRefused(t *testing.T) {
	refuseQueues(t, nil)
	refuseQueues(t, []impl.Queue{})
	for _, count := range []int{6, 7, 10, 261, 1 << 16} {
		for _, q := range []impl.Queue{queueOf(5, 0, 0, 3), queueOf(1, 0, 7), {}} {
			l := slices.Repeat([]impl.Queue{q}, count)
			if count < 20 {
				refuseQueues(t, l)
				continue
			}
			refuseRound(t, l)
			refuseRounds(t, l, 0)
			refuseAdded(t, l, 0, 1)
			left, ok := impl.LeftOf(l)
			if impl.GoodQueues(l) {
				t.Fatal("GoodQueues", count)
			}
			refuse(t, "LeftOf", isZero, left, ok, count)
		}
	}
}

// All combinations of numbers around the limits of a queue and near the limits of int.
func TestQueuesOfFarNumbersAreRefused(t *testing.T) {
	far := []int{math.MinInt, math.MinInt + 1, -1, 0, 1, 2, 20, 21, 50, 51, 99, 100, 1000000, 1000001, 1<<32 + 1, math.MaxInt - 1, math.MaxInt}
	for _, due := range far {
		for _, saved := range far {
			for _, sent := range far {
				for _, sizes := range [][]int{nil, {1}, {20, 20}, {0}, {21}, {1, -1}, {math.MaxInt, math.MaxInt}, {math.MinInt, 5}} {
					l := []impl.Queue{queueOf(due, saved, sent, sizes...)}
					if !areQueuesIn(l) {
						refuseQueues(t, l)
					} else if !impl.GoodQueues(l) {
						t.Fatalf("%#v", l)
					}
				}
			}
		}
	}
}

func TestNewQueueRefusesOtherQuantaAndItems(t *testing.T) {
	for _, due := range badDues {
		for _, sizes := range itemLists() {
			refuseNewQueue(t, due, sizes)
		}
	}
	for _, size := range badSizes {
		for _, sizes := range itemLists() {
			for _, at := range []int{0, len(sizes) / 2, len(sizes)} {
				other := slices.Insert(slices.Clone(sizes), at, size)
				refuseNewQueue(t, 1, other)
				refuseNewQueue(t, 50, other)
				if at < len(sizes) {
					refuseNewQueue(t, 5, slices.Delete(other, at+1, at+2))
				}
			}
		}
	}
	for _, many := range []int{41, 42, 80, 296, 1 << 16} {
		refuseNewQueue(t, 1, items(many, 1))
		refuseNewQueue(t, 50, items(many, 20))
	}
}

func TestAddSizeRefusesOtherIndexesAndSizes(t *testing.T) {
	eachQueues(func(l []impl.Queue) {
		far := []int{math.MinInt, math.MinInt + 1, -1 << 32, -len(l), -2, -1, len(l), len(l) + 1, 5, 6, 1 << 32, 1<<32 + len(l) - 1, math.MaxInt - 1, math.MaxInt}
		for _, k := range far {
			refuseAdded(t, l, k, 1)
			refuseAdded(t, l, k, 20)
		}
		for k := range l {
			for _, size := range badSizes {
				refuseAdded(t, l, k, size)
			}
		}
		refuseAdded(t, l, -1, 0)
		refuseAdded(t, l, len(l), 21)
	})
}

func TestRoundsOfRefusesOtherNumbersOfRounds(t *testing.T) {
	check := func(l []impl.Queue) {
		t.Helper()
		for _, many := range badManys {
			refuseRounds(t, l, many)
		}
	}
	eachQueues(check)
	eachFullQueues(check)
	check([]impl.Queue{queueOf(1, 0, 0)})
	check([]impl.Queue{queueOf(1, 0, 1000000, 1)})
}

// itemsWithTail returns the items with room behind them, and with what lies there, which a queue would send.
func itemsWithTail(sizes []int) []int {
	return append(slices.Clone(sizes), 1, 2, -1)[:len(sizes)]
}

// queuesWithTails returns the queues with room behind them and behind the items of each, and with what lies there.
func queuesWithTails(l []impl.Queue) ([]impl.Queue, []impl.Queue) {
	whole := append(cloneQueues(l), queueOf(5, 0, 0, 1), queueOf(50, 99, 3, 20, 20), queueOf(-1, -1, -1, -1))
	for k := range l {
		whole[k].Sizes = itemsWithTail(l[k].Sizes)
	}
	return whole[:len(l)], whole
}

// allOf returns the queues with all that lies in the room of their items.
func allOf(whole []impl.Queue) []impl.Queue {
	l := slices.Clone(whole)
	for k, q := range l {
		l[k].Sizes = slices.Clone(q.Sizes[:cap(q.Sizes)])
	}
	return l
}

// A turnCall is a call of a function that returns queues.
type turnCall struct {
	name string
	call func(l []impl.Queue) ([]impl.Queue, []int, bool)
}

func turnCalls() []turnCall {
	calls := []turnCall{{"RoundOf", impl.RoundOf}}
	for _, many := range []int{-1, 0, 1, 2, 20, 21} {
		calls = append(calls, turnCall{"RoundsOf", func(l []impl.Queue) ([]impl.Queue, []int, bool) {
			return impl.RoundsOf(l, many)
		}})
	}
	for _, k := range []int{-1, 0, 1, 4, 5} {
		for _, size := range []int{0, 1, 20, 21} {
			calls = append(calls, turnCall{"AddSize", func(l []impl.Queue) ([]impl.Queue, []int, bool) {
				after, ok := impl.AddSize(l, k, size)
				return after, nil, ok
			}})
		}
	}
	calls = append(calls, turnCall{"LeftOf", func(l []impl.Queue) ([]impl.Queue, []int, bool) {
		left, ok := impl.LeftOf(l)
		return nil, []int{left}, ok
	}})
	return append(calls, turnCall{"GoodQueues", func(l []impl.Queue) ([]impl.Queue, []int, bool) {
		return nil, nil, impl.GoodQueues(l)
	}})
}

// Promise 19: neither the queues nor their items are changed, nor read behind their lengths.
func TestQueuesAreLeftAlone(t *testing.T) {
	check := func(l []impl.Queue) {
		t.Helper()
		list, whole := queuesWithTails(l)
		before := allOf(whole)
		for _, c := range turnCalls() {
			after, numbers, ok := c.call(list)
			if !equalQueues(allOf(whole), before) {
				t.Fatal(c.name, "changed", l, whole)
			}
			clean, cleanNumbers, cleanOk := c.call(slices.Clip(cloneQueues(l)))
			if !equalQueues(after, clean) || !slices.Equal(numbers, cleanNumbers) || ok != cleanOk {
				t.Fatal(c.name, "read behind the length", l, after, numbers, ok)
			}
		}
	}
	eachQueues(check)
	eachQueues(func(l []impl.Queue) {
		check(append(cloneQueues(l), queueOf(51, 0, 0, 1)))
		check(append([]impl.Queue{queueOf(5, 0, 0, 1, 0)}, cloneQueues(l)...))
	})
	eachSmallQueue(func(q impl.Queue) { check([]impl.Queue{q}) })
	eachFullQueues(check)
	check(nil)
}

// Promise 19: the items of NewQueue are neither changed nor read behind their length, and the queue shares no memory with them.
func TestItemsOfNewQueuesAreLeftAlone(t *testing.T) {
	for _, due := range []int{0, 1, 5, 50, 51} {
		for _, sizes := range append(itemLists(), items(41, 1), []int{0}, []int{3, 21}) {
			list := itemsWithTail(sizes)
			whole := slices.Clone(list[:cap(list)])
			q, ok := impl.NewQueue(due, list)
			other, _ := impl.NewQueue(due, list)
			if !slices.Equal(list[:cap(list)], whole) {
				t.Fatal("changed", due, sizes, list[:cap(list)])
			}
			clean, cleanOk := impl.NewQueue(due, slices.Clip(slices.Clone(sizes)))
			if !equalQueue(q, clean) || ok != cleanOk {
				t.Fatal("read behind the length", due, sizes, q, ok)
			}
			overwrite(q.Sizes)
			if !slices.Equal(list[:cap(list)], whole) || !equalQueue(other, clean) {
				t.Fatal("shared", due, sizes, list, other)
			}
			overwrite(list)
			if !equalQueue(other, clean) {
				t.Fatal("shared with the argument", due, sizes, other)
			}
		}
	}
}

// overwriteQueues overwrites the queues and their items, with the room behind them.
func overwriteQueues(l []impl.Queue) {
	for _, q := range l {
		overwrite(q.Sizes)
	}
	room := l[:cap(l)]
	for k := range room {
		room[k] = queueOf(-7, -7, -7, -7)
	}
}

// What is returned may be overwritten without effect on the argument, on what lies behind its lengths, or on other results; and so may the argument.
func TestQueuesShareNoMemory(t *testing.T) {
	check := func(l []impl.Queue) {
		t.Helper()
		for _, c := range turnCalls() {
			list, whole := queuesWithTails(l)
			before := allOf(whole)
			want, wantNumbers, _ := c.call(cloneQueues(l))
			want = cloneQueues(want)
			first, firstNumbers, _ := c.call(list)
			second, secondNumbers, _ := c.call(list)
			overwriteQueues(first)
			overwrite(firstNumbers)
			if !equalQueues(allOf(whole), before) {
				t.Fatal(c.name, "shared with the argument", l, whole)
			}
			if !equalQueues(second, want) || !slices.Equal(secondNumbers, wantNumbers) {
				t.Fatal(c.name, "shared with another result", l, second, secondNumbers)
			}
			overwriteQueues(whole)
			if !equalQueues(second, want) || !slices.Equal(secondNumbers, wantNumbers) {
				t.Fatal(c.name, "shared with the argument", l, second, secondNumbers)
			}
		}
	}
	eachQueues(check)
	eachFullQueues(check)
	eachSmallQueue(func(q impl.Queue) { check([]impl.Queue{q}) })
}

// Each list of a result may be overwritten, with the room behind it, without effect on the other ones.
func TestListsOfOneResultShareNoMemory(t *testing.T) {
	check := func(l []impl.Queue) {
		t.Helper()
		for _, c := range turnCalls() {
			after, numbers, _ := c.call(l)
			lists := [][]int{numbers}
			for _, q := range after {
				lists = append(lists, q.Sizes)
			}
			for k, list := range lists {
				var before [][]int
				for _, other := range lists {
					before = append(before, slices.Clone(other))
				}
				overwrite(list)
				for j, other := range lists {
					if j != k && !slices.Equal(other, before[j]) {
						t.Fatal(c.name, l, k, j, other)
					}
				}
				copy(list, before[k])
			}
		}
	}
	eachQueues(check)
	eachQueues(func(l []impl.Queue) { check(sharing(l)) })
}

// sharing returns the queues with items that lie in one list, one queue's behind the other's, so that each has the next ones in its room.
func sharing(l []impl.Queue) []impl.Queue {
	var all []int
	for _, q := range l {
		all = append(all, q.Sizes...)
	}
	shared := slices.Clone(l)
	first := 0
	for k, q := range l {
		shared[k].Sizes = all[first : first+len(q.Sizes)]
		first += len(q.Sizes)
	}
	return shared
}

// Queues whose items share memory, behind each other or all the same, do what others do.
func TestQueuesThatShareTheirItems(t *testing.T) {
	check := func(l []impl.Queue) {
		t.Helper()
		before := cloneQueues(l)
		for _, c := range turnCalls() {
			after, numbers, ok := c.call(l)
			clean, cleanNumbers, cleanOk := c.call(cloneQueues(before))
			if !equalQueues(after, clean) || !slices.Equal(numbers, cleanNumbers) || ok != cleanOk {
				t.Fatal(c.name, before, after, numbers, ok)
			}
			if !equalQueues(l, before) {
				t.Fatal(c.name, "changed", before, l)
			}
		}
	}
	eachQueues(func(l []impl.Queue) { check(sharing(l)) })
	for _, sizes := range itemLists() {
		check([]impl.Queue{queueOf(3, 0, 0, sizes...), queueOf(50, 0, 0, sizes...), queueOf(1, 0, 0, sizes[len(sizes)/2:]...)})
	}
}

// A call's result is the same before and after other calls.
func TestTurnCallsKeepNothing(t *testing.T) {
	for range 3 {
		checkRound(t, exampleQueues, []impl.Queue{queueOf(5, 2, 3, 4)}, []int{0})
		refuseRounds(t, exampleQueues, 21)
		checkRounds(t, exampleQueues, 2, []impl.Queue{queueOf(5, 0, 7)}, []int{0, 0})
		checkAdded(t, exampleQueues, 0, 9, []impl.Queue{queueOf(5, 0, 0, 3, 4, 9)})
		refuseAdded(t, exampleQueues, 1, 9)
		checkLeft(t, exampleQueues, 7)
		refuseRound(t, []impl.Queue{queueOf(5, 0, 1000000, 3, 4)})
		refuseNewQueue(t, 51, []int{3, 4})
		if q, ok := impl.NewQueue(5, []int{3, 4}); !ok || !equalQueue(q, exampleQueues[0]) {
			t.Fatal(q, ok)
		}
	}
}
