package tests

import (
	"math"
	"slices"
	"testing"

	"loop.example/g00647/impl"
)

const (
	maxFill  = 100
	maxRate  = 20
	maxWants = 40
)

var (
	badRates = []int{math.MinInt, math.MinInt + 1, -1 << 32, -20, -2, -1, 0, 21, 22, 40, 100, 257, 1<<32 + 1, math.MaxInt - 1, math.MaxInt}
	// No capacity of a bucket and no size of a request.
	badAmounts = []int{math.MinInt, math.MinInt + 1, -1 << 32, -100, -2, -1, 0, 101, 102, 200, 257, 1<<32 + 1, 1<<32 + 10, math.MaxInt - 1, math.MaxInt}
	// Around each limit of a bucket, and near the limits of int.
	bucketNumbers = []int{math.MinInt, math.MinInt + 1, -1, 0, 1, 2, 20, 21, 100, 101, 10000, 10001, 1<<32 + 1, math.MaxInt - 1, math.MaxInt}
	exampleBucket = bucketOf(10, 2, 10, 0)
	exampleWants  = []impl.Want{{At: 0, Size: 10}, {At: 1, Size: 5}, {At: 3, Size: 5}}
	exampleTook   = []bool{true, false, true}
)

func bucketOf(room int, rate int, fill int, clock int) impl.Bucket {
	return impl.Bucket{Room: room, Rate: rate, Fill: fill, Clock: clock}
}

func wantOf(at int, size int) impl.Want {
	return impl.Want{At: at, Size: size}
}

func isBucketIn(b impl.Bucket) bool {
	isSized := b.Room >= 1 && b.Room <= maxFill && b.Rate >= 1 && b.Rate <= maxRate
	return isSized && b.Fill >= 0 && b.Fill <= b.Room && b.Clock >= 0 && b.Clock <= maxClock
}

// eachRoom gives buckets of many capacities and rates, with no, few, some, almost all and all tokens, at one time.
func eachRoom(clock int, f func(b impl.Bucket)) {
	for _, room := range []int{1, 2, 3, 7, 10, 20, 21, 50, 99, 100} {
		for _, rate := range []int{1, 2, 3, 7, 10, 19, 20} {
			fills := []int{0, 1, room / 2, room - 1, room}
			slices.Sort(fills)
			for _, fill := range slices.Compact(fills) {
				f(bucketOf(room, rate, fill, clock))
			}
		}
	}
}

func eachBucket(f func(b impl.Bucket)) {
	for _, clock := range []int{0, 1, 5, 5000, 9890, 9995, 9999, 10000} {
		eachRoom(clock, f)
	}
}

// badBuckets have one number that is not valid.
func badBuckets() []impl.Bucket {
	var l []impl.Bucket
	for _, clock := range []int{0, 3, 10000} {
		for _, room := range badAmounts {
			l = append(l, bucketOf(room, 2, 0, clock), bucketOf(room, 2, 1, clock), bucketOf(room, 2, room, clock))
		}
		for _, rate := range badRates {
			l = append(l, bucketOf(10, rate, 0, clock), bucketOf(10, rate, 10, clock), bucketOf(100, rate, 50, clock))
		}
		for _, room := range []int{1, 10, 99, 100} {
			for _, more := range []int{1, 2, 10, 1 << 32, math.MaxInt - 200} {
				l = append(l, bucketOf(room, 2, room+more, clock), bucketOf(room, 2, -more, clock))
			}
			l = append(l, bucketOf(room, 2, math.MinInt, clock), bucketOf(room, 2, math.MaxInt, clock))
		}
	}
	for _, clock := range badClocks {
		l = append(l, bucketOf(10, 2, 10, clock), bucketOf(10, 2, 0, clock), bucketOf(100, 20, 50, clock), bucketOf(1, 1, 1, clock))
	}
	return append(l, impl.Bucket{})
}

// fillIn lets the tokens arrive one by one; those for which there is no room are lost.
func fillIn(b impl.Bucket, at int) impl.Bucket {
	fill := b.Fill
	for tick := b.Clock; tick < at && fill < b.Room; tick++ {
		for range b.Rate {
			if fill < b.Room {
				fill++
			}
		}
	}
	return bucketOf(b.Room, b.Rate, fill, at)
}

func takeIn(b impl.Bucket, w impl.Want) (impl.Bucket, bool) {
	after := fillIn(b, w.At)
	if after.Fill < w.Size {
		return impl.Bucket{}, false
	}
	after.Fill -= w.Size
	return after, true
}

func playBucketIn(b impl.Bucket, l []impl.Want) (impl.Bucket, []bool) {
	var took []bool
	for _, w := range l {
		after, ok := takeIn(b, w)
		if ok {
			b = after
		} else {
			b = fillIn(b, w.At)
		}
		took = append(took, ok)
	}
	return b, took
}

// waitIn goes from tick to tick, also beyond the greatest time.
func waitIn(b impl.Bucket, size int) int {
	ticks := 0
	for have := b.Fill; have < size; have += b.Rate {
		ticks++
	}
	return ticks
}

func takenIn(l []impl.Want, took []bool, from int, to int) int {
	sum := 0
	for k, w := range l {
		if took[k] && from <= w.At && w.At <= to {
			sum += w.Size
		}
	}
	return sum
}

func checkFill(t *testing.T, b impl.Bucket, at int, want impl.Bucket) {
	t.Helper()
	if after, ok := impl.FillTo(b, at); after != want || !ok || !impl.GoodBucket(after) {
		t.Fatalf("%#v %d: %#v %v, not %#v", b, at, after, ok, want)
	}
}

// checkTake compares with takeIn; a request that is not granted yields no bucket.
func checkTake(t *testing.T, b impl.Bucket, w impl.Want) {
	t.Helper()
	want, is := takeIn(b, w)
	if after, ok := impl.TakeFrom(b, w); after != want || ok != is {
		t.Fatalf("%#v %#v: %#v %v, not %#v %v", b, w, after, ok, want, is)
	}
}

func checkPlayBucket(t *testing.T, b impl.Bucket, l []impl.Want, want impl.Bucket, wantTook []bool) {
	t.Helper()
	after, took, ok := impl.PlayBucket(b, l)
	if after != want || !slices.Equal(took, wantTook) || !ok || !impl.GoodBucket(after) {
		t.Fatalf("%#v %v: %#v %v %v, not %#v %v", b, l, after, took, ok, want, wantTook)
	}
}

func checkWait(t *testing.T, b impl.Bucket, size int, want int) {
	t.Helper()
	if ticks, ok := impl.WaitFor(b, size); ticks != want || !ok {
		t.Fatalf("%#v %d: %d %v, not %d", b, size, ticks, ok, want)
	}
}

func checkTaken(t *testing.T, l []impl.Want, took []bool, from int, to int, want int) {
	t.Helper()
	if sum, ok := impl.SumTaken(l, took, from, to); sum != want || !ok {
		t.Fatalf("%v %v %d %d: %d %v, not %d", l, took, from, to, sum, ok, want)
	}
}

func TestBucketConstants(t *testing.T) {
	if impl.MaxFill != maxFill {
		t.Fatal(impl.MaxFill)
	}
}

func TestNewBucket(t *testing.T) {
	for room := -3; room <= maxFill+3; room++ {
		for rate := -3; rate <= maxRate+3; rate++ {
			b, ok := impl.NewBucket(room, rate)
			isSized := room >= 1 && room <= 100 && rate >= 1 && rate <= 20
			if isSized && (b != bucketOf(room, rate, room, 0) || !ok || !impl.GoodBucket(b)) {
				t.Fatal(room, rate, b, ok)
			}
			if !isSized {
				refuse(t, "NewBucket", isNoBucket, b, ok, room, rate)
			}
		}
	}
}

func TestGoodBucket(t *testing.T) {
	eachBucket(func(b impl.Bucket) {
		if !impl.GoodBucket(b) {
			t.Fatalf("%#v", b)
		}
	})
	for room := -2; room <= maxFill+2; room++ {
		for fill := -2; fill <= maxFill+2; fill++ {
			b := bucketOf(room, 1, fill, 0)
			if is := impl.GoodBucket(b); is != (room >= 1 && room <= 100 && fill >= 0 && fill <= room) {
				t.Fatal(b, is)
			}
		}
	}
	for clock := -2; clock <= maxClock+2; clock++ {
		if is := impl.GoodBucket(bucketOf(1, 20, 0, clock)); is != (clock >= 0 && clock <= 10000) {
			t.Fatal(clock, is)
		}
	}
}

// Worked out apart from the program.
func TestKnownFills(t *testing.T) {
	for _, x := range []struct {
		b    impl.Bucket
		at   int
		fill int
	}{
		{bucketOf(10, 2, 0, 0), 0, 0},
		{bucketOf(10, 2, 0, 0), 1, 2},
		{bucketOf(10, 2, 0, 0), 3, 6},
		{bucketOf(10, 2, 0, 0), 4, 8},
		{bucketOf(10, 2, 0, 0), 5, 10},
		{bucketOf(10, 2, 0, 0), 6, 10},
		{bucketOf(10, 2, 0, 0), 10000, 10},
		{bucketOf(10, 3, 0, 0), 3, 9},
		{bucketOf(10, 3, 0, 0), 4, 10},
		{bucketOf(10, 3, 0, 0), 5, 10},
		{bucketOf(10, 3, 1, 100), 100, 1},
		{bucketOf(10, 3, 1, 100), 102, 7},
		{bucketOf(10, 3, 1, 100), 103, 10},
		{bucketOf(10, 3, 1, 100), 104, 10},
		{bucketOf(10, 2, 10, 7), 7, 10},
		{bucketOf(10, 2, 10, 7), 8, 10},
		{bucketOf(10, 2, 9, 7), 8, 10},
		{bucketOf(100, 20, 0, 9990), 9994, 80},
		{bucketOf(100, 20, 0, 9990), 9995, 100},
		{bucketOf(100, 20, 0, 9990), 9996, 100},
		{bucketOf(100, 20, 0, 9990), 10000, 100},
		{bucketOf(100, 1, 0, 0), 99, 99},
		{bucketOf(100, 1, 0, 0), 100, 100},
		{bucketOf(100, 1, 0, 0), 101, 100},
		{bucketOf(100, 1, 0, 9950), 10000, 50},
		{bucketOf(100, 20, 100, 0), 10000, 100},
		{bucketOf(1, 1, 0, 0), 0, 0},
		{bucketOf(1, 1, 0, 0), 1, 1},
		{bucketOf(1, 1, 0, 0), 2, 1},
		{bucketOf(1, 20, 0, 9999), 9999, 0},
		{bucketOf(1, 20, 0, 9999), 10000, 1},
		{bucketOf(7, 7, 0, 10000), 10000, 0},
		{bucketOf(7, 7, 3, 10000), 10000, 3},
	} {
		checkFill(t, x.b, x.at, bucketOf(x.b.Room, x.b.Rate, x.fill, x.at))
	}
}

// Each bucket at its Clock, around the tick at which it is just full, and at the last times.
func TestFillTo(t *testing.T) {
	eachBucket(func(b impl.Bucket) {
		full := b.Clock + waitIn(b, b.Room)
		for _, at := range []int{b.Clock, b.Clock + 1, b.Clock + 2, full - 2, full - 1, full, full + 1, full + 2, full + 1000, maxClock - 1, maxClock} {
			if at >= b.Clock && at <= maxClock {
				checkFill(t, b, at, fillIn(b, at))
			}
		}
	})
	eachRoom(0, func(b impl.Bucket) {
		for at := range 110 {
			checkFill(t, b, at, fillIn(b, at))
		}
	})
	for at := range maxClock + 1 {
		checkFill(t, bucketOf(100, 1, 0, 0), at, bucketOf(100, 1, min(at, 100), at))
		checkFill(t, bucketOf(100, 20, 0, at), maxClock, bucketOf(100, 20, min(20*(10000-at), 100), 10000))
	}
}

// A bucket is full at one tick and not at the one before.
func TestFillToTheTickOfFullness(t *testing.T) {
	eachBucket(func(b impl.Bucket) {
		full := b.Clock + waitIn(b, b.Room)
		for at := max(full-2, b.Clock); at <= min(full+2, maxClock); at++ {
			if after, ok := impl.FillTo(b, at); !ok || (after.Fill == b.Room) != (at >= full) {
				t.Fatal(b, at, after, ok)
			}
		}
	})
}

// Advancing a bucket in two steps is the same as advancing it at once.
func TestFillToBySteps(t *testing.T) {
	for _, clock := range []int{0, 9970} {
		eachRoom(clock, func(b impl.Bucket) {
			for at := clock; at <= clock+30; at++ {
				once, _ := impl.FillTo(b, at)
				for between := clock; between <= at; between++ {
					half, _ := impl.FillTo(b, between)
					checkFill(t, half, at, once)
				}
			}
		})
	}
}

// Worked out apart from the program. A fill of -1 stands for a request that is not granted.
func TestKnownTakes(t *testing.T) {
	for _, x := range []struct {
		b    impl.Bucket
		w    impl.Want
		fill int
	}{
		{bucketOf(10, 2, 10, 0), wantOf(0, 10), 0},
		{bucketOf(10, 2, 10, 0), wantOf(0, 9), 1},
		{bucketOf(10, 2, 10, 0), wantOf(0, 1), 9},
		{bucketOf(10, 2, 10, 0), wantOf(0, 11), -1},
		{bucketOf(10, 2, 10, 0), wantOf(1, 11), -1},
		{bucketOf(10, 2, 10, 0), wantOf(10000, 11), -1},
		{bucketOf(10, 2, 10, 0), wantOf(10000, 100), -1},
		{bucketOf(10, 2, 10, 0), wantOf(10000, 10), 0},
		{bucketOf(10, 2, 0, 0), wantOf(0, 1), -1},
		{bucketOf(10, 2, 0, 0), wantOf(1, 1), 1},
		{bucketOf(10, 2, 0, 0), wantOf(1, 2), 0},
		{bucketOf(10, 2, 0, 0), wantOf(1, 3), -1},
		{bucketOf(10, 2, 0, 0), wantOf(4, 8), 0},
		{bucketOf(10, 2, 0, 0), wantOf(4, 9), -1},
		{bucketOf(10, 2, 0, 0), wantOf(5, 10), 0},
		{bucketOf(10, 2, 0, 0), wantOf(6, 10), 0},
		{bucketOf(10, 2, 0, 0), wantOf(6, 11), -1},
		{bucketOf(10, 2, 3, 7), wantOf(7, 3), 0},
		{bucketOf(10, 2, 3, 7), wantOf(7, 4), -1},
		{bucketOf(10, 2, 3, 7), wantOf(8, 5), 0},
		{bucketOf(10, 2, 3, 7), wantOf(8, 6), -1},
		{bucketOf(10, 2, 9, 7), wantOf(8, 10), 0},
		{bucketOf(10, 2, 9, 7), wantOf(8, 11), -1},
		{bucketOf(100, 20, 100, 0), wantOf(0, 100), 0},
		{bucketOf(100, 20, 0, 0), wantOf(4, 80), 0},
		{bucketOf(100, 20, 0, 0), wantOf(4, 81), -1},
		{bucketOf(100, 20, 0, 9995), wantOf(10000, 100), 0},
		{bucketOf(99, 20, 99, 0), wantOf(10, 100), -1},
		{bucketOf(1, 1, 1, 0), wantOf(0, 1), 0},
		{bucketOf(1, 1, 1, 0), wantOf(0, 2), -1},
		{bucketOf(1, 1, 0, 0), wantOf(0, 1), -1},
		{bucketOf(1, 1, 0, 0), wantOf(1, 1), 0},
		{bucketOf(1, 20, 0, 0), wantOf(1, 2), -1},
		{bucketOf(7, 7, 7, 10000), wantOf(10000, 7), 0},
		{bucketOf(7, 7, 6, 10000), wantOf(10000, 7), -1},
	} {
		after, ok := impl.TakeFrom(x.b, x.w)
		if x.fill < 0 {
			refuse(t, "TakeFrom", isNoBucket, after, ok, x.b, x.w)
		} else if after != bucketOf(x.b.Room, x.b.Rate, x.fill, x.w.At) || !ok {
			t.Fatal(x, after, ok)
		}
	}
}

// Exactly the tokens that are there, one more, all the capacity and more than that.
func TestTakeFrom(t *testing.T) {
	eachBucket(func(b impl.Bucket) {
		full := b.Clock + waitIn(b, b.Room)
		for _, at := range []int{b.Clock, b.Clock + 1, b.Clock + 3, full - 1, full, full + 1, maxClock} {
			if at < b.Clock || at > maxClock {
				continue
			}
			there := fillIn(b, at).Fill
			for _, size := range []int{1, 2, there - 1, there, there + 1, there + 2, b.Room, b.Room + 1, maxFill} {
				if size >= 1 && size <= maxFill {
					checkTake(t, b, wantOf(at, size))
				}
			}
		}
	})
	for _, b := range []impl.Bucket{exampleBucket, bucketOf(10, 2, 0, 0), bucketOf(100, 20, 3, 0), bucketOf(100, 1, 0, 0), bucketOf(1, 20, 0, 0)} {
		for at := range 105 {
			for size := 1; size <= maxFill; size++ {
				checkTake(t, b, wantOf(at, size))
			}
		}
	}
}

// A request is granted for exactly the sizes up to what FillTo says is there.
func TestTakeFromWhatIsThere(t *testing.T) {
	for _, clock := range []int{0, 9997} {
		eachRoom(clock, func(b impl.Bucket) {
			for at := clock; at <= clock+3; at++ {
				there, _ := impl.FillTo(b, at)
				for size := 1; size <= maxFill; size++ {
					after, ok := impl.TakeFrom(b, wantOf(at, size))
					if ok != (size <= there.Fill) || ok && after != bucketOf(b.Room, b.Rate, there.Fill-size, at) {
						t.Fatal(b, at, size, after, ok)
					}
				}
			}
		})
	}
}

// Worked out apart from the program.
func TestKnownBucketPlays(t *testing.T) {
	one := slices.Repeat([]impl.Want{wantOf(0, 1)}, 40)
	yes := slices.Repeat([]bool{true}, 40)
	for _, x := range []struct {
		b     impl.Bucket
		l     []impl.Want
		after impl.Bucket
		took  []bool
	}{
		{exampleBucket, exampleWants, bucketOf(10, 2, 1, 3), exampleTook},
		{exampleBucket, nil, exampleBucket, nil},
		{bucketOf(10, 2, 3, 7), []impl.Want{}, bucketOf(10, 2, 3, 7), nil},
		{exampleBucket, []impl.Want{wantOf(0, 4), wantOf(0, 4), wantOf(0, 4), wantOf(0, 2)}, bucketOf(10, 2, 0, 0), []bool{true, true, false, true}},
		{bucketOf(10, 2, 0, 0), []impl.Want{wantOf(0, 1), wantOf(0, 100), wantOf(1, 3), wantOf(2, 5), wantOf(10000, 11)}, bucketOf(10, 2, 10, 10000), make([]bool, 5)},
		{bucketOf(5, 1, 0, 0), []impl.Want{wantOf(3, 4), wantOf(3, 3), wantOf(4, 1)}, bucketOf(5, 1, 0, 4), []bool{false, true, true}},
		{bucketOf(5, 1, 0, 0), []impl.Want{wantOf(3, 4), wantOf(4, 4)}, bucketOf(5, 1, 0, 4), []bool{false, true}},
		{bucketOf(5, 1, 4, 0), []impl.Want{wantOf(9, 6), wantOf(9, 5), wantOf(10, 2)}, bucketOf(5, 1, 1, 10), []bool{false, true, false}},
		{bucketOf(100, 20, 100, 0), []impl.Want{wantOf(0, 100), wantOf(5, 100), wantOf(9, 80), wantOf(9, 1)}, bucketOf(100, 20, 0, 9), []bool{true, true, true, false}},
		{bucketOf(100, 1, 100, 0), one, bucketOf(100, 1, 60, 0), yes},
		{bucketOf(40, 1, 40, 0), one, bucketOf(40, 1, 0, 0), yes},
		{bucketOf(39, 1, 39, 0), one, bucketOf(39, 1, 0, 0), append(slices.Clone(yes[:39]), false)},
		{bucketOf(1, 20, 1, 10000), []impl.Want{wantOf(10000, 1), wantOf(10000, 1)}, bucketOf(1, 20, 0, 10000), []bool{true, false}},
		{bucketOf(10, 3, 2, 9998), []impl.Want{wantOf(9999, 5), wantOf(10000, 4), wantOf(10000, 3)}, bucketOf(10, 3, 0, 10000), []bool{true, false, true}},
	} {
		checkPlayBucket(t, x.b, x.l, x.after, x.took)
	}
}

// mixedWants holds requests at nondecreasing times from first on, less than gap ticks apart, for 1 to size tokens each.
func mixedWants(count int, seed uint64, first int, gap int, size int) []impl.Want {
	numbers := mixedRows(16, 2*count, seed)
	var l []impl.Want
	at := first
	for k := range count {
		at = min(at+numbers[2*k]%gap, maxClock)
		l = append(l, wantOf(at, numbers[2*k+1]%size+1))
	}
	return l
}

// eachBucketPlay gives buckets with lists of up to 40 requests: at one time, close together, apart, for few tokens and for many, and up to the greatest time.
func eachBucketPlay(f func(b impl.Bucket, l []impl.Want)) {
	for _, clock := range []int{0, 37, 9990, 10000} {
		for _, room := range []int{1, 2, 5, 10, 33, 100} {
			for _, rate := range []int{1, 2, 7, 20} {
				for k, count := range []int{0, 1, 2, 3, 8, 20, 39, 40} {
					seed := uint64(clock*1000 + room*100 + rate*10 + k)
					fill := []int{room, 0, room / 2}[k%3]
					b := bucketOf(room, rate, fill, clock)
					f(b, mixedWants(count, seed, clock, 1, 3))
					f(b, mixedWants(count, seed+1, clock, 2, rate+1))
					f(b, mixedWants(count, seed+2, clock, 4, min(2*rate+room/4, maxFill)))
					f(b, mixedWants(count, seed+3, clock, 2*room/rate+2, room))
					f(b, mixedWants(count, seed+4, clock, 300, maxFill))
				}
			}
		}
	}
}

// eachSmallPlay gives all lists of up to three requests at 0..3 for 1..4 tokens, to small buckets.
func eachSmallPlay(f func(b impl.Bucket, l []impl.Want)) {
	var lists [][]impl.Want
	last := [][]impl.Want{nil}
	for range 4 {
		lists = append(lists, last...)
		var longer [][]impl.Want
		for _, l := range last {
			first := 0
			if len(l) > 0 {
				first = l[len(l)-1].At
			}
			for at := first; at <= 3; at++ {
				for size := 1; size <= 4; size++ {
					longer = append(longer, append(slices.Clone(l), wantOf(at, size)))
				}
			}
		}
		last = longer
	}
	for room := 1; room <= 3; room++ {
		for rate := 1; rate <= 3; rate++ {
			for fill := 0; fill <= room; fill++ {
				for _, l := range lists {
					f(bucketOf(room, rate, fill, 0), l)
				}
			}
		}
	}
}

func TestPlayBucket(t *testing.T) {
	yes, no, noAfterNo, yesAfterNo := 0, 0, 0, 0
	check := func(b impl.Bucket, l []impl.Want) {
		after, took := playBucketIn(b, l)
		checkPlayBucket(t, b, l, after, took)
		for k, is := range took {
			switch afterNo := k > 0 && !took[k-1]; {
			case is && afterNo:
				yesAfterNo++
			case afterNo:
				noAfterNo++
			case is:
				yes++
			default:
				no++
			}
		}
	}
	eachBucketPlay(check)
	eachSmallPlay(check)
	if min(yes, no, noAfterNo, yesAfterNo) < 1000 {
		t.Fatal("too few of one kind", yes, no, noAfterNo, yesAfterNo)
	}
}

// A list of requests does what its requests do one after the other, and what its parts do.
func TestPlayBucketByParts(t *testing.T) {
	eachBucketPlay(func(b impl.Bucket, l []impl.Want) {
		whole, all, _ := impl.PlayBucket(b, l)
		for _, at := range []int{0, 1, len(l) / 2, len(l) - 1, len(l)} {
			if at < 0 || at > len(l) {
				continue
			}
			half, first, _ := impl.PlayBucket(b, l[:at])
			after, last, ok := impl.PlayBucket(half, l[at:])
			if after != whole || !slices.Equal(slices.Concat(first, last), all) || !ok {
				t.Fatal(b, l, at, after, first, last)
			}
		}
		for k, w := range l {
			after, ok := impl.TakeFrom(b, w)
			if ok != all[k] {
				t.Fatal(b, w, ok)
			}
			if !ok {
				after, _ = impl.FillTo(b, w.At)
			}
			b = after
		}
		if b != whole {
			t.Fatal(b, whole)
		}
	})
}

// No request is granted, and the bucket is as if it had only been advanced.
func TestPlayBucketWithoutGrants(t *testing.T) {
	for _, clock := range []int{0, 9999} {
		eachRoom(clock, func(b impl.Bucket) {
			if b.Room == maxFill {
				return
			}
			for _, count := range []int{1, 2, 39, 40} {
				l := mixedWants(count, uint64(b.Room+count), clock, 6, 1)
				for k := range l {
					l[k].Size = min(b.Room+1+k, maxFill)
				}
				checkPlayBucket(t, b, l, fillIn(b, l[count-1].At), make([]bool, count))
			}
		})
	}
}

// Worked out apart from the program.
func TestKnownWaits(t *testing.T) {
	for _, x := range []struct {
		b     impl.Bucket
		size  int
		ticks int
	}{
		{bucketOf(10, 2, 0, 0), 5, 3},
		{bucketOf(10, 2, 0, 0), 1, 1},
		{bucketOf(10, 2, 0, 0), 2, 1},
		{bucketOf(10, 2, 0, 0), 3, 2},
		{bucketOf(10, 2, 0, 0), 6, 3},
		{bucketOf(10, 2, 0, 0), 9, 5},
		{bucketOf(10, 2, 0, 0), 10, 5},
		{bucketOf(10, 2, 0, 10000), 10, 5},
		{bucketOf(10, 2, 0, 9998), 5, 3},
		{bucketOf(10, 2, 1, 0), 5, 2},
		{bucketOf(10, 2, 1, 0), 6, 3},
		{bucketOf(10, 2, 5, 0), 5, 0},
		{bucketOf(10, 2, 5, 0), 1, 0},
		{bucketOf(10, 2, 5, 0), 6, 1},
		{bucketOf(10, 2, 10, 0), 10, 0},
		{bucketOf(10, 2, 9, 0), 10, 1},
		{bucketOf(10, 20, 0, 0), 1, 1},
		{bucketOf(10, 20, 0, 0), 10, 1},
		{bucketOf(100, 1, 0, 0), 100, 100},
		{bucketOf(100, 1, 0, 10000), 100, 100},
		{bucketOf(100, 1, 0, 0), 99, 99},
		{bucketOf(100, 1, 99, 0), 100, 1},
		{bucketOf(100, 20, 0, 0), 100, 5},
		{bucketOf(100, 20, 0, 0), 80, 4},
		{bucketOf(100, 20, 0, 0), 81, 5},
		{bucketOf(99, 20, 0, 0), 99, 5},
		{bucketOf(100, 19, 0, 0), 100, 6},
		{bucketOf(100, 7, 3, 500), 66, 9},
		{bucketOf(100, 7, 3, 500), 67, 10},
		{bucketOf(1, 1, 0, 0), 1, 1},
		{bucketOf(1, 1, 1, 10000), 1, 0},
		{bucketOf(1, 20, 0, 10000), 1, 1},
	} {
		checkWait(t, x.b, x.size, x.ticks)
	}
}

func TestWaitFor(t *testing.T) {
	for room := 1; room <= maxFill; room++ {
		for rate := 1; rate <= maxRate; rate++ {
			for _, fill := range []int{0, 1, room / 3, room - 1, room} {
				for _, size := range []int{1, 2, fill, fill + 1, fill + rate, fill + rate + 1, fill + 3*rate, fill + 3*rate - 1, room / 2, room - 1, room} {
					if size >= 1 && size <= room {
						checkWait(t, bucketOf(room, rate, fill, 0), size, waitIn(bucketOf(room, rate, fill, 0), size))
						checkWait(t, bucketOf(room, rate, fill, 10000), size, waitIn(bucketOf(room, rate, fill, 10000), size))
					}
				}
			}
		}
	}
	eachBucket(func(b impl.Bucket) {
		for size := 1; size <= b.Room; size++ {
			checkWait(t, b, size, waitIn(b, size))
		}
	})
}

// A request is granted after as many ticks as WaitFor says, and at none of those before.
func TestRequestsAreGrantedAfterTheWait(t *testing.T) {
	for _, clock := range []int{0, 5000, 9890, 9900} {
		eachRoom(clock, func(b impl.Bucket) {
			for _, size := range []int{1, 2, 3, b.Rate, 2*b.Rate - 1, 2 * b.Rate, b.Fill, b.Fill + 1, b.Fill + b.Rate, b.Fill + b.Rate + 1, b.Room - 1, b.Room} {
				if size < 1 || size > b.Room {
					continue
				}
				ticks, _ := impl.WaitFor(b, size)
				for before := range ticks {
					after, ok := impl.TakeFrom(b, wantOf(clock+before, size))
					refuse(t, "TakeFrom", isNoBucket, after, ok, b, size, before)
				}
				if _, ok := impl.TakeFrom(b, wantOf(clock+ticks, size)); !ok {
					t.Fatal(b, size, ticks)
				}
				_, took, _ := impl.PlayBucket(b, []impl.Want{wantOf(clock+max(ticks-1, 0), size), wantOf(clock+ticks, size)})
				if took[0] != (ticks == 0) || ticks > 0 && !took[1] {
					t.Fatal(b, size, ticks, took)
				}
			}
		})
	}
}

// Worked out apart from the program.
func TestKnownSumsTaken(t *testing.T) {
	same := []impl.Want{wantOf(5, 1), wantOf(5, 10), wantOf(5, 100)}
	all := []bool{true, true, true}
	for _, x := range []struct {
		l    []impl.Want
		took []bool
		from int
		to   int
		sum  int
	}{
		{exampleWants, exampleTook, 0, 3, 15},
		{exampleWants, exampleTook, 0, 10000, 15},
		{exampleWants, exampleTook, 0, 2, 10},
		{exampleWants, exampleTook, 0, 0, 10},
		{exampleWants, exampleTook, 1, 1, 0},
		{exampleWants, exampleTook, 1, 2, 0},
		{exampleWants, exampleTook, 1, 3, 5},
		{exampleWants, exampleTook, 3, 3, 5},
		{exampleWants, exampleTook, 3, 10000, 5},
		{exampleWants, exampleTook, 4, 10000, 0},
		{exampleWants, exampleTook, 3, 0, 0},
		{exampleWants, exampleTook, 10000, 0, 0},
		{exampleWants, exampleTook, 1, 0, 0},
		{exampleWants, all, 0, 3, 20},
		{exampleWants, all, 1, 3, 10},
		{exampleWants, all, 1, 1, 5},
		{exampleWants, make([]bool, 3), 0, 10000, 0},
		{nil, nil, 0, 10000, 0},
		{[]impl.Want{}, []bool{}, 0, 0, 0},
		{nil, nil, 10000, 0, 0},
		{same, all, 5, 5, 111},
		{same, all, 4, 6, 111},
		{same, all, 0, 4, 0},
		{same, all, 6, 10000, 0},
		{same, all, 6, 4, 0},
		{same, []bool{false, true, false}, 5, 5, 10},
		{same, []bool{true, false, true}, 5, 5, 101},
		{[]impl.Want{wantOf(0, 7), wantOf(10000, 8)}, []bool{true, true}, 0, 10000, 15},
		{[]impl.Want{wantOf(0, 7), wantOf(10000, 8)}, []bool{true, true}, 1, 10000, 8},
		{[]impl.Want{wantOf(0, 7), wantOf(10000, 8)}, []bool{true, true}, 0, 9999, 7},
		{[]impl.Want{wantOf(0, 7), wantOf(10000, 8)}, []bool{true, true}, 10000, 10000, 8},
		{[]impl.Want{wantOf(9, 7), wantOf(3, 8), wantOf(6, 9)}, all, 3, 6, 17},
		{[]impl.Want{wantOf(9, 7), wantOf(3, 8), wantOf(6, 9)}, all, 6, 9, 16},
		{[]impl.Want{wantOf(-1, 7), wantOf(10001, 8), wantOf(6, 9)}, all, 0, 10000, 9},
		{[]impl.Want{wantOf(math.MinInt, 7), wantOf(math.MaxInt, 8), wantOf(0, 9)}, all, 0, 10000, 9},
		{slices.Repeat([]impl.Want{wantOf(2, 100)}, 40), slices.Repeat([]bool{true}, 40), 2, 2, 4000},
		{slices.Repeat([]impl.Want{wantOf(2, 100)}, 40), slices.Repeat([]bool{true, false}, 20), 0, 2, 2000},
	} {
		checkTaken(t, x.l, x.took, x.from, x.to, x.sum)
	}
}

// Lists in any order, with any of the requests granted; the ends of the interval are at a request, beside it, and at the ends of time.
func TestSumTaken(t *testing.T) {
	for _, count := range []int{0, 1, 2, 3, 7, 20, 39, 40} {
		for seed := range uint64(12) {
			numbers := mixedRows(16, 3*count, seed*100+uint64(count))
			var l []impl.Want
			var took []bool
			ends := []int{0, maxClock}
			for k := range count {
				at := numbers[3*k] % []int{4, 20, 10001}[seed%3]
				l = append(l, wantOf(at, numbers[3*k+1]%maxFill+1))
				took = append(took, numbers[3*k+2]%3 > 0)
				ends = append(ends, max(at-1, 0), at, min(at+1, maxClock))
			}
			slices.Sort(ends)
			ends = slices.Compact(ends)
			for _, from := range ends {
				for _, to := range ends {
					checkTaken(t, l, took, from, to, takenIn(l, took, from, to))
				}
			}
		}
	}
}

// What is taken up to a time and what is taken after it is all that is taken.
func TestSumTakenByParts(t *testing.T) {
	eachBucketPlay(func(b impl.Bucket, l []impl.Want) {
		_, took, _ := impl.PlayBucket(b, l)
		all := takenIn(l, took, 0, maxClock)
		for _, w := range l {
			if w.At < maxClock {
				first, _ := impl.SumTaken(l, took, 0, w.At)
				checkTaken(t, l, took, w.At+1, maxClock, all-first)
			}
			if w.At > 0 {
				last, _ := impl.SumTaken(l, took, w.At, maxClock)
				checkTaken(t, l, took, 0, w.At-1, all-last)
			}
		}
	})
}

// timesOf holds the times of the requests, once each.
func timesOf(l []impl.Want) []int {
	var times []int
	for _, w := range l {
		times = append(times, w.At)
	}
	slices.Sort(times)
	return slices.Compact(times)
}

// Promise 13: in each interval, no more tokens are taken than the capacity and the tokens that arrive in it; and from the beginning on, no more than the tokens that were there and those that arrived. An interval that begins or ends between two requests holds the same requests as a shorter one.
func TestNoMoreIsTakenThanArrives(t *testing.T) {
	reached := 0
	eachBucketPlay(func(b impl.Bucket, l []impl.Want) {
		_, took, ok := impl.PlayBucket(b, l)
		if !ok || len(took) != len(l) {
			t.Fatal(b, l, took, ok)
		}
		times := timesOf(l)
		for k, from := range times {
			for _, to := range times[k:] {
				sum := takenIn(l, took, from, to)
				checkTaken(t, l, took, from, to, sum)
				if most := b.Room + b.Rate*(to-from); sum > most {
					t.Fatal("more is taken than arrives", b, l, took, from, to, sum)
				} else if sum == most {
					reached++
				}
			}
			if takenIn(l, took, b.Clock, from) > b.Fill+b.Rate*(from-b.Clock) {
				t.Fatal("more is taken than was there and arrived", b, l, took, from)
			}
		}
	})
	if reached < 100 {
		t.Fatal("the limit is reached too seldom", reached)
	}
}

// Promise 13 for every interval of 0..5, of small buckets.
func TestNoMoreIsTakenThanArrivesInSmallBuckets(t *testing.T) {
	eachSmallPlay(func(b impl.Bucket, l []impl.Want) {
		_, took, _ := impl.PlayBucket(b, l)
		for from := range 6 {
			for to := from; to < 6; to++ {
				sum, ok := impl.SumTaken(l, took, from, to)
				if !ok || sum > b.Room+b.Rate*(to-from) {
					t.Fatal(b, l, took, from, to, sum, ok)
				}
			}
		}
	})
}

// mayTakeIn reports whether a request may be granted without that more is taken than the capacity and what arrives, in any interval that ends with it, or than was there and arrived since the beginning.
func mayTakeIn(b impl.Bucket, l []impl.Want, took []bool, w impl.Want) bool {
	if w.Size > b.Room || takenIn(l, took, b.Clock, w.At)+w.Size > b.Fill+b.Rate*(w.At-b.Clock) {
		return false
	}
	for _, before := range l {
		if takenIn(l, took, before.At, w.At)+w.Size > b.Room+b.Rate*(w.At-before.At) {
			return false
		}
	}
	return true
}

// A request is granted exactly if that keeps promise 13: an account that knows of no Fill.
func TestRequestsAreGrantedUnlessTooMuchWereTaken(t *testing.T) {
	check := func(b impl.Bucket, l []impl.Want) {
		_, took, _ := impl.PlayBucket(b, l)
		for k, w := range l {
			if may := mayTakeIn(b, l[:k], took[:k], w); took[k] != may {
				t.Fatal(b, l[:k+1], took[:k+1], may)
			}
		}
	}
	eachBucketPlay(check)
	eachSmallPlay(check)
}

// Who takes all that is there at once, and then all that arrives, takes exactly the capacity and the tokens that arrive.
func TestAllThatArrivesIsTaken(t *testing.T) {
	for _, clock := range []int{0, 500, 9961} {
		for _, room := range []int{1, 5, 20, 99, 100} {
			for rate := 1; rate <= min(room, maxRate); rate++ {
				l := []impl.Want{wantOf(clock, room)}
				for tick := 1; tick < maxWants; tick++ {
					l = append(l, wantOf(clock+tick, rate))
				}
				yes := slices.Repeat([]bool{true}, maxWants)
				checkPlayBucket(t, bucketOf(room, rate, room, clock), l, bucketOf(room, rate, 0, clock+39), yes)
				for to := range maxWants {
					checkTaken(t, l, yes, clock, clock+to, room+rate*to)
				}
			}
		}
	}
}

// A bucket that was idle for long grants its capacity and no more.
func TestIdleBucketsHoldTheirRoom(t *testing.T) {
	eachBucket(func(b impl.Bucket) {
		if b.Clock > 9890 {
			return
		}
		for _, at := range []int{b.Clock + 100, 9990, 10000} {
			l := []impl.Want{wantOf(at, b.Room), wantOf(at, 1)}
			checkPlayBucket(t, b, l, bucketOf(b.Room, b.Rate, 0, at), []bool{true, false})
		}
	})
}

func isNoBucket(b impl.Bucket) bool {
	return b == impl.Bucket{}
}

func refuseFill(t *testing.T, b impl.Bucket, at int) {
	t.Helper()
	after, ok := impl.FillTo(b, at)
	refuse(t, "FillTo", isNoBucket, after, ok, b, at)
}

func refuseTake(t *testing.T, b impl.Bucket, w impl.Want) {
	t.Helper()
	after, ok := impl.TakeFrom(b, w)
	refuse(t, "TakeFrom", isNoBucket, after, ok, b, w)
}

func refusePlayBucket(t *testing.T, b impl.Bucket, l []impl.Want) {
	t.Helper()
	after, took, ok := impl.PlayBucket(b, l)
	refuse(t, "PlayBucket", isNoBucket, after, ok, b, l)
	if len(took) != 0 {
		t.Fatal("PlayBucket", b, l, took)
	}
}

func refuseWait(t *testing.T, b impl.Bucket, size int) {
	t.Helper()
	ticks, ok := impl.WaitFor(b, size)
	refuse(t, "WaitFor", isZero, ticks, ok, b, size)
}

func refuseTaken(t *testing.T, l []impl.Want, took []bool, from int, to int) {
	t.Helper()
	sum, ok := impl.SumTaken(l, took, from, to)
	refuse(t, "SumTaken", isZero, sum, ok, l, took, from, to)
}

// refuseBucket gives the bucket to every function that takes one, with times and requests that are valid otherwise.
func refuseBucket(t *testing.T, b impl.Bucket) {
	t.Helper()
	if impl.GoodBucket(b) {
		t.Fatalf("GoodBucket %#v", b)
	}
	refusePlayBucket(t, b, nil)
	for _, at := range []int{0, 5, 10000, min(max(b.Clock, 0), maxClock), b.Clock} {
		refuseFill(t, b, at)
		for _, size := range []int{1, 10, 100} {
			refuseTake(t, b, wantOf(at, size))
			refusePlayBucket(t, b, []impl.Want{wantOf(at, size)})
			refusePlayBucket(t, b, []impl.Want{wantOf(at, size), wantOf(10000, size)})
		}
	}
	for _, size := range []int{1, 2, 10, 100, b.Room, b.Fill} {
		refuseWait(t, b, size)
	}
}

func TestNewBucketRefusesOtherNumbers(t *testing.T) {
	for _, room := range bucketNumbers {
		for _, rate := range bucketNumbers {
			b, ok := impl.NewBucket(room, rate)
			if !isBucketIn(bucketOf(room, rate, 0, 0)) {
				refuse(t, "NewBucket", isNoBucket, b, ok, room, rate)
			} else if b != bucketOf(room, rate, room, 0) || !ok {
				t.Fatal(room, rate, b, ok)
			}
		}
	}
	for _, room := range badAmounts {
		b, ok := impl.NewBucket(room, 1)
		refuse(t, "NewBucket", isNoBucket, b, ok, room, 1)
	}
	for _, rate := range badRates {
		b, ok := impl.NewBucket(100, rate)
		refuse(t, "NewBucket", isNoBucket, b, ok, 100, rate)
	}
}

func TestOtherBucketsAreRefused(t *testing.T) {
	for _, b := range badBuckets() {
		refuseBucket(t, b)
	}
}

// All combinations of numbers around the limits of a bucket and near the limits of int.
func TestBucketsOfFarNumbersAreRefused(t *testing.T) {
	for _, room := range bucketNumbers {
		for _, rate := range bucketNumbers {
			for _, fill := range bucketNumbers {
				for _, clock := range bucketNumbers {
					b := bucketOf(room, rate, fill, clock)
					if !isBucketIn(b) {
						refuseBucket(t, b)
					} else if !impl.GoodBucket(b) {
						t.Fatalf("%#v", b)
					}
				}
			}
		}
	}
}

// badTimes are before the bucket's Clock, or beyond the greatest time.
func badTimes(b impl.Bucket) []int {
	times := slices.Clone(badClocks)
	for _, less := range []int{1, 2, 100, 5000, 9999} {
		times = append(times, b.Clock-less)
	}
	return slices.DeleteFunc(times, func(at int) bool { return at >= b.Clock && at <= maxClock })
}

func TestOtherTimesOfBucketsAreRefused(t *testing.T) {
	eachBucket(func(b impl.Bucket) {
		for _, at := range badTimes(b) {
			refuseFill(t, b, at)
			for _, size := range []int{1, b.Room, maxFill} {
				refuseTake(t, b, wantOf(at, size))
				refusePlayBucket(t, b, []impl.Want{wantOf(at, size)})
			}
		}
	})
}

func TestOtherSizesOfRequestsAreRefused(t *testing.T) {
	eachBucket(func(b impl.Bucket) {
		for _, size := range badAmounts {
			for _, at := range []int{b.Clock, min(b.Clock+3, maxClock), maxClock} {
				refuseTake(t, b, wantOf(at, size))
				refusePlayBucket(t, b, []impl.Want{wantOf(at, size)})
			}
		}
	})
}

func TestPlayBucketRefusesTooManyRequests(t *testing.T) {
	eachRoom(0, func(b impl.Bucket) {
		for _, count := range []int{41, 42, 80, 296} {
			refusePlayBucket(t, b, slices.Repeat([]impl.Want{wantOf(0, 1)}, count))
			refusePlayBucket(t, b, slices.Repeat([]impl.Want{wantOf(10000, 100)}, count))
			refusePlayBucket(t, b, mixedWants(count, 7, 0, 3, 5))
		}
	})
	refusePlayBucket(t, exampleBucket, slices.Repeat([]impl.Want{wantOf(0, 1)}, 1<<16))
	refusePlayBucket(t, exampleBucket, make([]impl.Want, 41))
}

// An invalid request at the first, the middle and the last place, also where it would not be granted.
func TestPlayBucketRefusesOtherRequests(t *testing.T) {
	eachBucketPlay(func(b impl.Bucket, l []impl.Want) {
		for _, at := range []int{0, len(l) / 2, len(l)} {
			time := b.Clock
			if at > 0 {
				time = l[at-1].At
			}
			bad := []impl.Want{
				wantOf(time, 0), wantOf(time, -1), wantOf(time, 101), wantOf(time, math.MinInt), wantOf(time, math.MaxInt),
				wantOf(time-1, 1), wantOf(time-1, 100), wantOf(-1, 1), wantOf(10001, 1), wantOf(10001, 100), wantOf(math.MinInt, 1), wantOf(math.MaxInt, 1),
			}
			for _, w := range bad {
				refusePlayBucket(t, b, slices.Insert(slices.Clone(l), at, w))
			}
			if at < len(l) {
				for _, w := range bad {
					other := slices.Clone(l)
					other[at] = w
					refusePlayBucket(t, b, other)
				}
			}
		}
	})
}

// A time earlier than that of the request before, though not earlier than the bucket's Clock, whether that request is granted or not.
func TestPlayBucketRefusesDecreasingTimes(t *testing.T) {
	for count := 2; count <= maxWants; count++ {
		for _, room := range []int{1, 10, 100} {
			b := bucketOf(room, 5, room, 20)
			for _, at := range []int{1, count / 2, count - 1} {
				at = max(at, 1)
				for _, size := range []int{1, 100} {
					for _, less := range []int{1, 2, 10, 5000} {
						l := mixedWants(count, uint64(count), 5020, 3, 10)
						l[at-1].Size = size
						l[at].At = l[at-1].At - less
						refusePlayBucket(t, b, l)
					}
				}
			}
		}
	}
	refusePlayBucket(t, exampleBucket, []impl.Want{wantOf(1, 1), wantOf(0, 1)})
	refusePlayBucket(t, exampleBucket, []impl.Want{wantOf(1, 100), wantOf(0, 1)})
	refusePlayBucket(t, exampleBucket, []impl.Want{wantOf(10000, 100), wantOf(9999, 100)})
}

func TestWaitForRefusesOtherSizes(t *testing.T) {
	eachBucket(func(b impl.Bucket) {
		for _, size := range append([]int{b.Room + 1, b.Room + 2, b.Room + b.Rate, b.Room + 1<<32}, badAmounts...) {
			refuseWait(t, b, size)
		}
		for size := b.Room + 1; size <= maxFill+1; size++ {
			refuseWait(t, b, size)
		}
	})
}

func TestSumTakenRefusesOtherArguments(t *testing.T) {
	eachBucketPlay(func(b impl.Bucket, l []impl.Want) {
		took := make([]bool, len(l))
		for k := range took {
			took[k] = k%3 > 0
		}
		for _, time := range badClocks {
			refuseTaken(t, l, took, time, 0)
			refuseTaken(t, l, took, time, maxClock)
			refuseTaken(t, l, took, 0, time)
			refuseTaken(t, l, took, maxClock, time)
			refuseTaken(t, l, took, time, time)
		}
		refuseTaken(t, l, append(slices.Clone(took), true), 0, maxClock)
		refuseTaken(t, l, append(slices.Clone(took), false), 0, maxClock)
		refuseTaken(t, append(slices.Clone(l), wantOf(0, 1)), took, 0, maxClock)
		if len(l) > 0 {
			refuseTaken(t, l, took[1:], 0, maxClock)
			refuseTaken(t, l[1:], took, 0, maxClock)
			refuseTaken(t, l, nil, 0, maxClock)
			refuseTaken(t, nil, took, 0, maxClock)
		}
	})
	for _, count := range []int{41, 42, 80, 296, 1 << 16} {
		l := slices.Repeat([]impl.Want{wantOf(0, 1)}, count)
		refuseTaken(t, l, make([]bool, count), 0, maxClock)
		refuseTaken(t, l, slices.Repeat([]bool{true}, count), 0, maxClock)
		refuseTaken(t, l, make([]bool, maxWants), 0, maxClock)
		refuseTaken(t, l[:maxWants], make([]bool, count), 0, maxClock)
		refuseTaken(t, l, make([]bool, count), 1, 0)
	}
}

// An invalid Size at the first, the middle and the last place, also of a request that was not granted, or lies outside of the interval, and of an interval without times.
func TestSumTakenRefusesOtherSizes(t *testing.T) {
	for _, size := range badAmounts {
		for _, count := range []int{1, 2, 3, 20, 39, 40} {
			for _, at := range []int{0, count / 2, count - 1} {
				for _, is := range []bool{true, false} {
					l := mixedWants(count, uint64(count), 5, 3, 10)
					took := slices.Repeat([]bool{!is}, count)
					l[at].Size, took[at] = size, is
					for _, time := range []int{0, l[at].At, maxClock} {
						refuseTaken(t, l, took, 0, time)
						refuseTaken(t, l, took, time, maxClock)
						refuseTaken(t, l, took, time, 0)
						refuseTaken(t, l, took, time, time)
					}
				}
			}
		}
	}
}

// wantsWithTail returns the requests with room behind them, and with what lies there, which a bucket would grant.
func wantsWithTail(l []impl.Want) ([]impl.Want, []impl.Want) {
	at := 0
	if len(l) > 0 {
		at = l[len(l)-1].At
	}
	whole := append(slices.Clone(l), wantOf(at, 1), wantOf(at, 1), wantOf(maxClock, 1), wantOf(-1, 0))
	return whole[:len(l)], whole
}

func tookWithTail(took []bool) ([]bool, []bool) {
	whole := append(slices.Clone(took), true, true, false, true)
	return whole[:len(took)], whole
}

// Promise 19: the requests are neither changed nor read behind their length.
func TestRequestsAreLeftAlone(t *testing.T) {
	check := func(b impl.Bucket, l []impl.Want) {
		t.Helper()
		list, whole := wantsWithTail(l)
		before := slices.Clone(whole)
		after, took, ok := impl.PlayBucket(b, list)
		if !slices.Equal(whole, before) {
			t.Fatal("changed", b, l, whole)
		}
		clean, cleanTook, cleanOk := impl.PlayBucket(b, slices.Clip(slices.Clone(l)))
		if after != clean || !slices.Equal(took, cleanTook) || ok != cleanOk {
			t.Fatal("read behind the length", b, l, after, took, ok)
		}
	}
	eachBucketPlay(func(b impl.Bucket, l []impl.Want) {
		check(b, l)
		check(bucketOf(b.Room, b.Rate, b.Room+1, b.Clock), l)
		check(b, append(slices.Clone(l), wantOf(b.Clock-1, 1)))
		check(b, append(slices.Clone(l), wantOf(maxClock, 0)))
	})
	for count := 38; count <= 44; count++ {
		check(exampleBucket, mixedWants(count, 3, 0, 3, 5))
		check(exampleBucket, make([]impl.Want, count))
	}
}

// Promise 19: the two lists of SumTaken are neither changed nor read behind their lengths.
func TestGrantedRequestsAreLeftAlone(t *testing.T) {
	check := func(l []impl.Want, took []bool, from int, to int) {
		t.Helper()
		list, whole := wantsWithTail(l)
		flags, wholeFlags := tookWithTail(took)
		before, beforeFlags := slices.Clone(whole), slices.Clone(wholeFlags)
		sum, ok := impl.SumTaken(list, flags, from, to)
		if !slices.Equal(whole, before) || !slices.Equal(wholeFlags, beforeFlags) {
			t.Fatal("changed", l, took, from, to, whole, wholeFlags)
		}
		clean, cleanOk := impl.SumTaken(slices.Clip(slices.Clone(l)), slices.Clip(slices.Clone(took)), from, to)
		if sum != clean || ok != cleanOk {
			t.Fatal("read behind the length", l, took, from, to, sum, ok)
		}
	}
	eachBucketPlay(func(b impl.Bucket, l []impl.Want) {
		_, took := playBucketIn(b, l)
		check(l, took, 0, maxClock)
		check(l, took, b.Clock, b.Clock)
		check(l, took, b.Clock, -1)
		check(l, took, maxClock+1, 0)
		check(append(slices.Clone(l), wantOf(b.Clock, 1)), took, 0, maxClock)
		check(l, append(slices.Clone(took), true), 0, maxClock)
		check(append(slices.Clone(l), wantOf(b.Clock, 0)), append(slices.Clone(took), false), 0, maxClock)
	})
	check(make([]impl.Want, 41), make([]bool, 41), 0, 1)
}

// What is returned may be overwritten without effect on the argument or on other results; and so may the argument.
func TestBucketPlaysShareNoMemory(t *testing.T) {
	eachBucketPlay(func(b impl.Bucket, l []impl.Want) {
		list, whole := wantsWithTail(l)
		before := slices.Clone(whole)
		_, first, _ := impl.PlayBucket(b, list)
		after, second, _ := impl.PlayBucket(b, list)
		room := first[:cap(first)]
		for k := range room {
			room[k] = !room[k]
		}
		if !slices.Equal(whole, before) {
			t.Fatal("shared with the argument", b, l, whole)
		}
		for k := range whole {
			whole[k] = wantOf(-7, -7)
		}
		if want, wantTook := playBucketIn(b, l); after != want || !slices.Equal(second, wantTook) {
			t.Fatal("shared", b, l, after, second)
		}
	})
}

// A call's result is the same before and after other calls.
func TestBucketCallsKeepNothing(t *testing.T) {
	for range 3 {
		checkPlayBucket(t, exampleBucket, exampleWants, bucketOf(10, 2, 1, 3), exampleTook)
		refusePlayBucket(t, exampleBucket, append(slices.Clone(exampleWants), wantOf(2, 1)))
		refuseTake(t, bucketOf(10, 2, 0, 0), wantOf(1, 5))
		checkFill(t, bucketOf(10, 2, 0, 0), 3, bucketOf(10, 2, 6, 3))
		checkWait(t, bucketOf(10, 2, 0, 0), 5, 3)
		refuseWait(t, exampleBucket, 11)
		checkTaken(t, exampleWants, exampleTook, 0, 3, 15)
		refuseTaken(t, exampleWants, exampleTook, 0, 10001)
		checkTake(t, exampleBucket, wantOf(0, 10))
	}
}
