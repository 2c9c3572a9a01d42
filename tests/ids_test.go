package tests

import (
	"math"
	"slices"
	"testing"

	"loop.example/g00647/impl"
)

const (
	maxIdSteps  = 40
	ahead       = 4
	maxReserved = 1000
	maxGiven    = 60
)

var (
	giveStep  = impl.IdStep{Kind: 1}
	syncStep  = impl.IdStep{Kind: 2}
	loseStep  = impl.IdStep{Kind: 3}
	crashStep = impl.IdStep{Kind: 3, Kept: true}

	idSteps = []impl.IdStep{giveStep, syncStep, loseStep, crashStep}
	// badIdSteps have a kind that is none, or Kept with a kind that does not use it.
	badIdSteps = []impl.IdStep{
		{}, {Kept: true}, {Kind: 1, Kept: true}, {Kind: 2, Kept: true}, {Kind: 4}, {Kind: 4, Kept: true}, {Kind: 5}, {Kind: 5, Kept: true},
		{Kind: -1}, {Kind: -1, Kept: true}, {Kind: -2}, {Kind: -3}, {Kind: -3, Kept: true}, {Kind: 40}, {Kind: 1000}, {Kind: 257}, {Kind: 259, Kept: true},
		{Kind: 1<<32 + 1}, {Kind: 1<<32 + 2}, {Kind: 1<<32 + 3, Kept: true}, {Kind: math.MaxInt}, {Kind: math.MaxInt, Kept: true}, {Kind: math.MinInt}, {Kind: math.MinInt, Kept: true},
	}
	farNumbers = []int{math.MinInt, math.MinInt + 1, math.MinInt + 3, math.MinInt + 4, math.MinInt + 5, -1 << 32, -1000, -5, -4, -1, 0, 1, 2, 4, 5, 996, 999, 1000, 1001, 1 << 32, 1<<32 + 1, math.MaxInt - 5, math.MaxInt - 4, math.MaxInt - 3, math.MaxInt - 1, math.MaxInt}
)

func giverOf(next int, asked int, sure int, given ...int) impl.Giver {
	return impl.Giver{Next: next, Asked: asked, Sure: sure, Given: given}
}

func cloneGiver(g impl.Giver) impl.Giver {
	return giverOf(g.Next, g.Asked, g.Sure, slices.Clone(g.Given)...)
}

func equalGivers(a impl.Giver, b impl.Giver) bool {
	return a.Next == b.Next && a.Asked == b.Asked && a.Sure == b.Sure && slices.Equal(a.Given, b.Given)
}

// eachNumbers gives Next, Asked and Sure of all valid givers.
func eachNumbers(f func(next int, asked int, sure int)) {
	for sure := range maxReserved + 1 {
		for more := range ahead + 1 {
			for next := 1; next <= sure+1 && sure+more <= maxReserved; next++ {
				f(next, sure+more, sure)
			}
		}
	}
}

// givenLists holds lists of numbers below next: none, one alone, those at the ends, the first and the last ones up to 60 of them, each second one, and mixed ones.
func givenLists(next int) [][]int {
	lists := [][]int{nil, {}}
	if next == 1 {
		return lists
	}
	lists = append(lists, []int{1}, []int{next - 1}, []int{next / 2})
	if next > 2 {
		lists = append(lists, []int{1, next - 1})
	}
	for _, most := range []int{2, 58, 59, 60} {
		count := min(next-1, most)
		lists = append(lists, numbersFrom(1, count), numbersFrom(next-count, count))
	}
	var second, mixed []int
	for no := 1; no < next; no++ {
		if no%2 == 0 && len(second) < maxGiven {
			second = append(second, no)
		}
		if mixedRows(3, 1, uint64(no*31+next))[0] < 3 && len(mixed) < maxGiven {
			mixed = append(mixed, no)
		}
	}
	return append(lists, second, mixed)
}

// eachGiver gives valid givers with each distance of the two reservations, with Next at both ends and between, and with the lists of issued numbers.
func eachGiver(f func(g impl.Giver)) {
	for _, sure := range []int{0, 1, 2, 3, 4, 5, 8, 30, 58, 59, 60, 61, 62, 64, 120, 500, 990, 991, 992, 993, 994, 995, 996, 997, 998, 999, 1000} {
		nexts := []int{1, 2, 3, sure / 2, sure - 61, sure - 60, sure - 59, sure - 3, sure - 1, sure, sure + 1, 59, 60, 61, 62}
		slices.Sort(nexts)
		for _, next := range slices.Compact(nexts) {
			for asked := sure; asked <= min(sure+ahead, maxReserved) && next >= 1 && next <= sure+1; asked++ {
				for _, given := range givenLists(next) {
					f(giverOf(next, asked, sure, slices.Clone(given)...))
				}
			}
		}
	}
}

// stepIn performs a step of a valid giver as the document's table has it.
func stepIn(g impl.Giver, s impl.IdStep) (impl.Giver, bool) {
	after := cloneGiver(g)
	switch s {
	case giveStep:
		if g.Next > g.Sure || len(g.Given) >= maxGiven {
			return impl.Giver{}, false
		}
		after.Given = append(after.Given, g.Next)
		after.Next++
		return after, true
	case crashStep:
		after.Sure = g.Asked
		after.Next = after.Sure + 1
	case loseStep:
		after.Next = g.Sure + 1
	case syncStep:
		after.Sure = g.Asked
	default:
		return impl.Giver{}, false
	}
	after.Asked = after.Sure + ahead
	if after.Asked > maxReserved {
		after.Asked = maxReserved
	}
	return after, true
}

func playIn(l []impl.IdStep) (impl.Giver, []bool) {
	g := giverOf(1, ahead, 0)
	did := make([]bool, len(l))
	for k, s := range l {
		if after, ok := stepIn(g, s); ok {
			g, did[k] = after, true
		}
	}
	return g, did
}

// lostIn tries all numbers below Next.
func lostIn(g impl.Giver) int {
	lost := 0
	for no := 1; no < g.Next; no++ {
		if !slices.Contains(g.Given, no) {
			lost++
		}
	}
	return lost
}

// roomIn issues numbers until none is left.
func roomIn(g impl.Giver) int {
	room := 0
	for {
		after, ok := stepIn(g, giveStep)
		if !ok {
			return room
		}
		g = after
		room++
	}
}

func checkStep(t *testing.T, g impl.Giver, s impl.IdStep) {
	t.Helper()
	after, ok := impl.StepGiver(g, s)
	want, is := stepIn(g, s)
	if ok != is || !equalGivers(after, want) {
		t.Fatalf("%#v %v: %#v %v, not %#v %v", g, s, after, ok, want, is)
	}
	if is && !impl.GoodGiver(after) {
		t.Fatalf("not valid %#v %v: %#v", g, s, after)
	}
}

func checkCounts(t *testing.T, g impl.Giver, lost int, room int) {
	t.Helper()
	if n, ok := impl.LostIn(g); n != lost || !ok {
		t.Fatalf("LostIn %#v: %d %v, not %d", g, n, ok, lost)
	}
	if n, ok := impl.RoomIn(g); n != room || !ok {
		t.Fatalf("RoomIn %#v: %d %v, not %d", g, n, ok, room)
	}
}

func checkPlay(t *testing.T, l []impl.IdStep) {
	t.Helper()
	g, did, ok := impl.PlayGiver(l)
	want, wantDid := playIn(l)
	if !ok || !equalGivers(g, want) || !slices.Equal(did, wantDid) || !impl.GoodGiver(g) {
		t.Fatalf("%v: %#v %v %v, not %#v %v", l, g, did, ok, want, wantDid)
	}
}

// checkNumbers follows an execution step by step and keeps account of what has reached the disk by itself: what was asked for becomes durable by a sync and by a crash that keeps it, and by nothing else.
func checkNumbers(t *testing.T, l []impl.IdStep) {
	t.Helper()
	before, _, _ := impl.PlayGiver(nil)
	durable := 0
	var issued []int
	for k, s := range l {
		after, did, ok := impl.PlayGiver(l[:k+1])
		if !ok || len(did) != k+1 {
			t.Fatal(l[:k+1], did, ok)
		}
		if did[k] && (s == syncStep || s == crashStep) {
			durable = before.Asked
		}
		if did[k] && s == giveStep {
			no := after.Given[len(after.Given)-1]
			if slices.Contains(issued, no) || no > durable || no < 1 {
				t.Fatal("issued twice or beyond the reservation", l[:k+1], issued, no, durable)
			}
			issued = append(issued, no)
		}
		if !slices.Equal(after.Given, issued) || after.Sure != durable {
			t.Fatal("issued numbers or the reservation", l[:k+1], after, issued, durable)
		}
		if did[k] && s.Kind == crashStep.Kind && after.Next != durable+1 {
			t.Fatal("numbering does not continue behind the reservation", l[:k+1], before, after)
		}
		before = after
	}
}

func TestIdConstants(t *testing.T) {
	if impl.MaxIdSteps != maxIdSteps || impl.Ahead != ahead || impl.IdGive != giveStep.Kind || impl.IdSync != syncStep.Kind || impl.IdCrash != crashStep.Kind {
		t.Fatal(impl.MaxIdSteps, impl.Ahead, impl.IdGive, impl.IdSync, impl.IdCrash)
	}
}

func TestNewGiver(t *testing.T) {
	g := impl.NewGiver()
	if !equalGivers(g, giverOf(1, 4, 0)) || !impl.GoodGiver(g) {
		t.Fatalf("%#v", g)
	}
	checkCounts(t, g, 0, 0)
}

func TestGoodGiver(t *testing.T) {
	eachGiver(func(g impl.Giver) {
		if !impl.GoodGiver(g) {
			t.Fatalf("%#v", g)
		}
	})
	eachNumbers(func(next int, asked int, sure int) {
		if !impl.GoodGiver(giverOf(next, asked, sure)) {
			t.Fatal(next, asked, sure)
		}
	})
}

// Worked out apart from the program.
func TestKnownSteps(t *testing.T) {
	all := numbersFrom(1, maxGiven)
	for _, x := range []struct {
		g     impl.Giver
		s     impl.IdStep
		after impl.Giver
	}{
		{giverOf(1, 8, 4), giveStep, giverOf(2, 8, 4, 1)},
		{giverOf(4, 8, 4, 2), giveStep, giverOf(5, 8, 4, 2, 4)},
		{giverOf(1, 1, 1), giveStep, giverOf(2, 1, 1, 1)},
		{giverOf(60, 64, 60, all[:59]...), giveStep, giverOf(61, 64, 60, all...)},
		{giverOf(1000, 1000, 1000, 1, 999), giveStep, giverOf(1001, 1000, 1000, 1, 999, 1000)},
		{giverOf(1000, 1000, 1000, all[:59]...), giveStep, giverOf(1001, 1000, 1000, append(slices.Clone(all[:59]), 1000)...)},

		{giverOf(1, 4, 0), syncStep, giverOf(1, 8, 4)},
		{giverOf(1, 8, 4), syncStep, giverOf(1, 12, 8)},
		{giverOf(3, 8, 4, 1, 2), syncStep, giverOf(3, 12, 8, 1, 2)},
		{giverOf(1, 0, 0), syncStep, giverOf(1, 4, 0)},
		{giverOf(5, 6, 4), syncStep, giverOf(5, 10, 6)},
		{giverOf(990, 995, 991), syncStep, giverOf(990, 999, 995)},
		{giverOf(990, 996, 992), syncStep, giverOf(990, 1000, 996)},
		{giverOf(990, 997, 993), syncStep, giverOf(990, 1000, 997)},
		{giverOf(990, 999, 995), syncStep, giverOf(990, 1000, 999)},
		{giverOf(990, 1000, 996), syncStep, giverOf(990, 1000, 1000)},
		{giverOf(990, 998, 998), syncStep, giverOf(990, 1000, 998)},
		{giverOf(1001, 1000, 1000, all...), syncStep, giverOf(1001, 1000, 1000, all...)},

		{giverOf(1, 4, 0), loseStep, giverOf(1, 4, 0)},
		{giverOf(1, 4, 0), crashStep, giverOf(5, 8, 4)},
		{giverOf(1, 8, 4), loseStep, giverOf(5, 8, 4)},
		{giverOf(1, 8, 4), crashStep, giverOf(9, 12, 8)},
		{giverOf(3, 8, 4, 1, 2), loseStep, giverOf(5, 8, 4, 1, 2)},
		{giverOf(3, 8, 4, 1, 2), crashStep, giverOf(9, 12, 8, 1, 2)},
		{giverOf(5, 8, 4, 1), loseStep, giverOf(5, 8, 4, 1)},
		{giverOf(5, 8, 4, 1), crashStep, giverOf(9, 12, 8, 1)},
		{giverOf(1, 0, 0), loseStep, giverOf(1, 4, 0)},
		{giverOf(1, 0, 0), crashStep, giverOf(1, 4, 0)},
		{giverOf(2, 6, 4), loseStep, giverOf(5, 8, 4)},
		{giverOf(2, 6, 4), crashStep, giverOf(7, 10, 6)},
		{giverOf(7, 996, 995), loseStep, giverOf(996, 999, 995)},
		{giverOf(7, 996, 995), crashStep, giverOf(997, 1000, 996)},
		{giverOf(7, 1000, 997), loseStep, giverOf(998, 1000, 997)},
		{giverOf(7, 1000, 997), crashStep, giverOf(1001, 1000, 1000)},
		{giverOf(1, 1000, 1000), loseStep, giverOf(1001, 1000, 1000)},
		{giverOf(1001, 1000, 1000, all...), crashStep, giverOf(1001, 1000, 1000, all...)},
	} {
		if after, ok := impl.StepGiver(x.g, x.s); !ok || !equalGivers(after, x.after) {
			t.Errorf("%v %v: %v %v, not %v", x.g, x.s, after, ok, x.after)
		}
	}
}

func TestStepGiver(t *testing.T) {
	eachGiver(func(g impl.Giver) {
		for _, s := range idSteps {
			checkStep(t, g, s)
		}
	})
}

// All numbers that givers have with small reservations and with large ones, without issued numbers and with one.
func TestStepsOfAllNumbers(t *testing.T) {
	eachNumbers(func(next int, asked int, sure int) {
		if sure > 80 && sure < 990 {
			return
		}
		for _, s := range idSteps {
			checkStep(t, giverOf(next, asked, sure), s)
			if next > 1 {
				checkStep(t, giverOf(next, asked, sure, next-1), s)
			}
		}
	})
}

// From the new giver to the limits: 60 issued numbers, and a reservation of all numbers.
func TestStepsUpToTheLimits(t *testing.T) {
	g := impl.NewGiver()
	for no := 1; no <= maxGiven; no++ {
		if room, _ := impl.RoomIn(g); room == 0 {
			refuseStep(t, g, giveStep)
			g, _ = impl.StepGiver(g, syncStep)
		}
		after, ok := impl.StepGiver(g, giveStep)
		if !ok || !slices.Equal(after.Given, numbersFrom(1, no)) {
			t.Fatal(no, after, ok)
		}
		g = after
	}
	for range 300 {
		refuseStep(t, g, giveStep)
		checkCounts(t, g, 0, 0)
		after, ok := impl.StepGiver(g, syncStep)
		if !ok || after.Sure != g.Asked || !slices.Equal(after.Given, g.Given) {
			t.Fatal(g, after, ok)
		}
		g = after
	}
	if !equalGivers(g, giverOf(61, 1000, 1000, numbersFrom(1, 60)...)) {
		t.Fatal(g)
	}
	for sure := 4; sure <= maxReserved; sure += 4 {
		before, _ := impl.StepGiver(giverOf(1, sure, sure-4), crashStep)
		if before.Sure != sure || before.Next != sure+1 || before.Asked != min(sure+4, 1000) {
			t.Fatal(sure, before)
		}
		refuseStep(t, before, giveStep)
	}
}

func TestKnownExecutions(t *testing.T) {
	for _, x := range []struct {
		l   []impl.IdStep
		did []bool
		g   impl.Giver
	}{
		{nil, nil, giverOf(1, 4, 0)},
		{[]impl.IdStep{}, nil, giverOf(1, 4, 0)},
		{[]impl.IdStep{giveStep}, []bool{false}, giverOf(1, 4, 0)},
		{[]impl.IdStep{giveStep, syncStep, giveStep, loseStep, giveStep}, []bool{false, true, true, true, false}, giverOf(5, 8, 4, 1)},
		{[]impl.IdStep{syncStep, syncStep}, []bool{true, true}, giverOf(1, 12, 8)},
		{[]impl.IdStep{loseStep, loseStep, loseStep}, []bool{true, true, true}, giverOf(1, 4, 0)},
		{[]impl.IdStep{crashStep, crashStep, crashStep}, []bool{true, true, true}, giverOf(13, 16, 12)},
		{[]impl.IdStep{crashStep, loseStep, crashStep, loseStep, giveStep}, []bool{true, true, true, true, false}, giverOf(9, 12, 8)},
		{[]impl.IdStep{crashStep, giveStep, syncStep, giveStep}, []bool{true, false, true, true}, giverOf(6, 12, 8, 5)},
		{[]impl.IdStep{syncStep, giveStep, giveStep, giveStep, giveStep, giveStep}, []bool{true, true, true, true, true, false}, giverOf(5, 8, 4, 1, 2, 3, 4)},
		{[]impl.IdStep{syncStep, giveStep, giveStep, loseStep, syncStep, giveStep, crashStep, syncStep, giveStep}, []bool{true, true, true, true, true, true, true, true, true}, giverOf(14, 20, 16, 1, 2, 5, 13)},
		{[]impl.IdStep{syncStep, giveStep, crashStep, giveStep, {Kind: 4}, {Kind: 2, Kept: true}, syncStep, giveStep}, []bool{true, true, true, false, false, false, true, true}, giverOf(10, 16, 12, 1, 9)},
		{slices.Repeat([]impl.IdStep{giveStep}, 40), make([]bool, 40), giverOf(1, 4, 0)},
		{slices.Repeat([]impl.IdStep{syncStep}, 40), slices.Repeat([]bool{true}, 40), giverOf(1, 164, 160)},
		{slices.Repeat([]impl.IdStep{crashStep}, 40), slices.Repeat([]bool{true}, 40), giverOf(161, 164, 160)},
		{slices.Repeat([]impl.IdStep{loseStep}, 40), slices.Repeat([]bool{true}, 40), giverOf(1, 4, 0)},
		{slices.Repeat([]impl.IdStep{syncStep, giveStep, giveStep, giveStep, giveStep}, 8), slices.Repeat([]bool{true}, 40), giverOf(33, 36, 32, numbersFrom(1, 32)...)},
	} {
		g, did, ok := impl.PlayGiver(x.l)
		if !ok || !slices.Equal(did, x.did) || !equalGivers(g, x.g) {
			t.Errorf("%v: %v %v %v, not %v %v", x.l, g, did, ok, x.g, x.did)
		}
	}
}

// mixedIdSteps has as many steps of each kind as the weights say, and some that are none.
func mixedIdSteps(long int, seed uint64, weights ...int) []impl.IdStep {
	var from []impl.IdStep
	for k, weight := range weights {
		from = append(from, slices.Repeat(idSteps[k:k+1], weight)...)
	}
	from = append(from, badIdSteps[seed%uint64(len(badIdSteps))])
	var l []impl.IdStep
	for _, n := range mixedRows(10, long, seed+5000) {
		l = append(l, from[n%len(from)])
	}
	return l
}

// eachExecution gives all sequences of up to six steps, and mixed ones of all lengths, with many crashes and with few.
func eachExecution(f func(l []impl.IdStep)) {
	lists := [][]impl.IdStep{nil}
	for range 6 {
		var longer [][]impl.IdStep
		for _, l := range lists {
			f(l)
			for _, s := range idSteps {
				longer = append(longer, append(slices.Clone(l), s))
			}
		}
		lists = longer
	}
	for _, l := range lists {
		f(l)
	}
	for long := range maxIdSteps + 1 {
		for seed := range uint64(10) {
			seed = seed*100 + uint64(long)
			f(mixedIdSteps(long, seed, 1, 1, 1, 1))
			f(mixedIdSteps(long, seed, 20, 8, 1, 1))
			f(mixedIdSteps(long, seed, 10, 3, 4, 0))
			f(mixedIdSteps(long, seed, 10, 3, 0, 4))
			f(mixedIdSteps(long, seed, 0, 0, 1, 1))
		}
	}
	f(slices.Repeat([]impl.IdStep{syncStep, giveStep, loseStep, giveStep}, 10))
	f(slices.Repeat([]impl.IdStep{giveStep, crashStep, giveStep, syncStep}, 10))
	f(slices.Repeat([]impl.IdStep{syncStep, giveStep, crashStep, loseStep, giveStep}, 8))
	f(slices.Repeat([]impl.IdStep{syncStep, giveStep, giveStep, giveStep, giveStep}, 8))
}

func TestPlayGiver(t *testing.T) {
	eachExecution(func(l []impl.IdStep) { checkPlay(t, l) })
	for _, s := range badIdSteps {
		for _, l := range [][]impl.IdStep{{s}, {syncStep, s, giveStep}, slices.Repeat([]impl.IdStep{s}, 40), append(slices.Repeat([]impl.IdStep{syncStep, giveStep, s}, 13), s)} {
			checkPlay(t, l)
		}
	}
}

// Promise 11: in every execution, no number is issued twice, and none beyond the durable reservation.
func TestNumbersAreIssuedOnce(t *testing.T) {
	eachExecution(func(l []impl.IdStep) { checkNumbers(t, l) })
}

// Promise 11, for executions that are longer than PlayGiver takes, up to the limits.
func TestNumbersAreIssuedOnceUpToTheLimits(t *testing.T) {
	for seed := range uint64(40) {
		g, durable := impl.NewGiver(), 0
		issued := map[int]bool{}
		for _, s := range mixedIdSteps(1200, seed, 1, int(seed)%12+1, int(seed)%3, int(seed)%5) {
			after, ok := impl.StepGiver(g, s)
			if !ok {
				continue
			}
			if s == syncStep || s == crashStep {
				durable = g.Asked
			}
			if s == giveStep {
				if issued[g.Next] || g.Next > durable {
					t.Fatal(seed, g, durable)
				}
				issued[g.Next] = true
			}
			if len(after.Given) != len(issued) || after.Sure != durable || !impl.GoodGiver(after) {
				t.Fatal(seed, g, s, after, durable)
			}
			g = after
		}
	}
}

func TestPlayGiverRefusesTooManySteps(t *testing.T) {
	for _, many := range []int{41, 42, 64, 80, 296, 1000, 1 << 16} {
		for _, s := range append(slices.Clone(badIdSteps), idSteps...) {
			refusePlay(t, slices.Repeat([]impl.IdStep{s}, many))
		}
		refusePlay(t, make([]impl.IdStep, many))
		refusePlay(t, mixedIdSteps(many, 1, 1, 1, 1, 1))
	}
}

func TestKnownCounts(t *testing.T) {
	all := numbersFrom(1, maxGiven)
	for _, x := range []struct {
		g    impl.Giver
		lost int
		room int
	}{
		{giverOf(1, 4, 0), 0, 0},
		{giverOf(1, 8, 4), 0, 4},
		{giverOf(2, 8, 4, 1), 0, 3},
		{giverOf(4, 8, 4, 1, 2, 3), 0, 1},
		{giverOf(5, 8, 4, 1, 2, 3, 4), 0, 0},
		{giverOf(5, 8, 4, 1), 3, 0},
		{giverOf(5, 8, 4), 4, 0},
		{giverOf(9, 12, 8, 1, 2), 6, 0},
		{giverOf(6, 12, 8, 5), 4, 3},
		{giverOf(14, 20, 16, 1, 2, 5, 13), 9, 3},
		{giverOf(61, 64, 60, all...), 0, 0},
		{giverOf(61, 68, 64, all...), 0, 0},
		{giverOf(60, 68, 64, all[:59]...), 0, 1},
		{giverOf(58, 68, 64, all[:57]...), 0, 3},
		{giverOf(100, 1000, 1000, all...), 39, 0},
		{giverOf(100, 1000, 1000, all[:59]...), 40, 1},
		{giverOf(100, 1000, 1000, 7), 98, 59},
		{giverOf(1, 1000, 1000), 0, 60},
		{giverOf(941, 1000, 1000), 940, 60},
		{giverOf(942, 1000, 1000), 941, 59},
		{giverOf(940, 1000, 1000, 939), 938, 59},
		{giverOf(1001, 1000, 1000), 1000, 0},
		{giverOf(1001, 1000, 1000, all...), 940, 0},
	} {
		checkCounts(t, x.g, x.lost, x.room)
	}
}

func TestCounts(t *testing.T) {
	eachGiver(func(g impl.Giver) { checkCounts(t, g, lostIn(g), roomIn(g)) })
	eachExecution(func(l []impl.IdStep) {
		g, _, _ := impl.PlayGiver(l)
		checkCounts(t, g, lostIn(g), roomIn(g))
	})
}

// As many numbers as RoomIn says can be issued, one after the other, and no more.
func TestRoomIsWhatCanBeIssued(t *testing.T) {
	eachGiver(func(g impl.Giver) {
		room, _ := impl.RoomIn(g)
		first := cloneGiver(g)
		for k := range room {
			after, ok := impl.StepGiver(g, giveStep)
			if left, _ := impl.RoomIn(after); !ok || left != room-k-1 {
				t.Fatalf("%#v %d %#v %v %d", first, k, after, ok, left)
			}
			g = after
		}
		if want := append(slices.Clone(first.Given), numbersFrom(first.Next, room)...); !slices.Equal(g.Given, want) {
			t.Fatalf("%#v %#v", first, g)
		}
		refuseStep(t, g, giveStep)
	})
}

func isNoGiver(g impl.Giver) bool {
	return equalGivers(g, impl.Giver{})
}

func refuseStep(t *testing.T, g impl.Giver, s impl.IdStep) {
	t.Helper()
	after, ok := impl.StepGiver(g, s)
	refuse(t, "StepGiver", isNoGiver, after, ok, g, s)
}

func refusePlay(t *testing.T, l []impl.IdStep) {
	t.Helper()
	g, did, ok := impl.PlayGiver(l)
	refuse(t, "PlayGiver", isNoGiver, g, ok, len(l))
	if len(did) != 0 {
		t.Fatal("PlayGiver", len(l), did)
	}
}

// refuseGiver gives the giver to every function that takes one, with steps that are enabled otherwise.
func refuseGiver(t *testing.T, g impl.Giver) {
	t.Helper()
	if impl.GoodGiver(g) {
		t.Fatalf("GoodGiver %#v", g)
	}
	for _, s := range idSteps {
		refuseStep(t, g, s)
	}
	lost, ok := impl.LostIn(g)
	refuse(t, "LostIn", isZero, lost, ok, g)
	room, ok := impl.RoomIn(g)
	refuse(t, "RoomIn", isZero, room, ok, g)
}

func TestStepGiverRefusesOtherSteps(t *testing.T) {
	eachGiver(func(g impl.Giver) {
		for _, s := range badIdSteps {
			refuseStep(t, g, s)
		}
	})
}

// At the end of the reservation, which is not yet durable as far as it was asked for, and with 60 issued numbers.
func TestStepGiverRefusesToGiveWithoutRoom(t *testing.T) {
	all := numbersFrom(1, maxGiven)
	for sure := range maxReserved + 1 {
		for asked := sure; asked <= min(sure+ahead, maxReserved); asked++ {
			refuseStep(t, giverOf(sure+1, asked, sure), giveStep)
			for next := 61; next <= sure+1; next += 13 {
				refuseStep(t, giverOf(next, asked, sure, all...), giveStep)
			}
		}
	}
}

// Around the limits of each number, at both ends of the valid ones.
func TestGiversWithOtherNumbersAreRefused(t *testing.T) {
	valid := map[[3]int]bool{}
	eachNumbers(func(next int, asked int, sure int) {
		valid[[3]int{next, asked, sure}] = true
	})
	check := func(next int, asked int, sure int) {
		if !valid[[3]int{next, asked, sure}] {
			refuseGiver(t, giverOf(next, asked, sure))
			refuseGiver(t, giverOf(next, asked, sure, 1))
		} else if !impl.GoodGiver(giverOf(next, asked, sure)) {
			t.Fatal(next, asked, sure)
		}
	}
	for sure := -6; sure <= 12; sure++ {
		for asked := -6; asked <= 20; asked++ {
			for next := -6; next <= 16; next++ {
				check(next, asked, sure)
			}
		}
	}
	for sure := 990; sure <= 1006; sure++ {
		for asked := 990; asked <= 1010; asked++ {
			for next := 990; next <= 1010; next++ {
				check(next, asked, sure)
			}
			check(0, asked, sure)
			check(1, asked, sure)
		}
	}
	for _, sure := range farNumbers {
		for _, asked := range farNumbers {
			for _, next := range farNumbers {
				check(next, asked, sure)
			}
		}
	}
}

// One number is moved out of its limits, and all others are kept.
func TestGiversWithOneOtherNumberAreRefused(t *testing.T) {
	eachGiver(func(g impl.Giver) {
		for _, next := range []int{math.MinInt, -1, 0, g.Sure + 2, g.Sure + 3, 1002, math.MaxInt} {
			refuseGiver(t, giverOf(next, g.Asked, g.Sure, g.Given...))
		}
		for _, asked := range []int{math.MinInt, -1, g.Sure - 1, g.Sure + ahead + 1, g.Sure + ahead + 2, 1001, math.MaxInt} {
			refuseGiver(t, giverOf(g.Next, asked, g.Sure, g.Given...))
		}
		for _, sure := range []int{math.MinInt, -1, g.Next - 2, g.Asked + 1, g.Asked - ahead - 1, 1001, math.MaxInt} {
			refuseGiver(t, giverOf(g.Next, g.Asked, sure, g.Given...))
		}
	})
}

// One issued number is another one, or one more comes before it; at the first, the middle and the last place, and behind it.
func TestGiversWithOtherIssuedNumbersAreRefused(t *testing.T) {
	eachGiver(func(g impl.Giver) {
		many := len(g.Given)
		refuseWith := func(at int, no int) {
			t.Helper()
			refuseGiver(t, giverOf(g.Next, g.Asked, g.Sure, slices.Insert(slices.Clone(g.Given), at, no)...))
			if at < many {
				other := cloneGiver(g)
				other.Given[at] = no
				refuseGiver(t, other)
			}
		}
		for _, at := range slices.Compact([]int{0, many / 2, max(many-1, 0), many}) {
			for _, no := range []int{math.MinInt, -1 << 32, -2, -1, 0, g.Next, g.Next + 1, g.Sure + 2, 1001, 1<<32 + 1, math.MaxInt} {
				refuseWith(at, no)
			}
			if at > 0 {
				refuseWith(at, g.Given[at-1])
			}
			if at > 0 && at < many {
				refuseWith(at-1, g.Given[at])
				other := cloneGiver(g)
				other.Given[at-1], other.Given[at] = other.Given[at], other.Given[at-1]
				refuseGiver(t, other)
			}
		}
	})
}

func TestGiversWithTooManyIssuedNumbersAreRefused(t *testing.T) {
	for _, many := range []int{61, 62, 100, 316, 1000} {
		for sure := many; sure <= maxReserved; sure += 100 {
			refuseGiver(t, giverOf(many+1, sure, sure, numbersFrom(1, many)...))
			refuseGiver(t, giverOf(sure+1, sure, sure, numbersFrom(sure+1-many, many)...))
		}
	}
	refuseGiver(t, giverOf(1001, 1000, 1000, make([]int, 1<<16)...))
	refuseGiver(t, giverOf(1001, 1000, 1000, numbersFrom(1, 1<<16)...))
	refuseGiver(t, impl.Giver{})
}

// giverCall holds what the functions of the chapter that take a giver return.
type giverCall struct {
	after  impl.Giver
	counts [2]int
	oks    [4]bool
}

func callGiver(g impl.Giver, s impl.IdStep) giverCall {
	var x giverCall
	x.after, x.oks[0] = impl.StepGiver(g, s)
	x.counts[0], x.oks[1] = impl.LostIn(g)
	x.counts[1], x.oks[2] = impl.RoomIn(g)
	x.oks[3] = impl.GoodGiver(g)
	return x
}

func equalGiverCalls(a giverCall, b giverCall) bool {
	return equalGivers(a.after, b.after) && a.counts == b.counts && a.oks == b.oks
}

// eachGiverCall gives valid arguments and invalid ones.
func eachGiverCall(f func(g impl.Giver, s impl.IdStep)) {
	check := func(g impl.Giver) {
		for _, s := range idSteps {
			f(g, s)
		}
		f(g, badIdSteps[(g.Next&15+len(g.Given))%len(badIdSteps)])
	}
	eachGiver(func(g impl.Giver) {
		check(g)
		check(giverOf(g.Sure+2, g.Asked, g.Sure, g.Given...))
		check(giverOf(g.Next, g.Asked, g.Sure, append(slices.Clone(g.Given), g.Next)...))
		check(giverOf(g.Next, g.Asked, g.Sure, append([]int{0}, g.Given...)...))
	})
	for _, n := range farNumbers {
		check(giverOf(n, 8, 4, 1, 2))
		check(giverOf(3, n, 4, 1, 2))
		check(giverOf(3, 8, n, 1, 2))
		check(giverOf(3, 8, 4, 1, n))
	}
	check(giverOf(1000, 1000, 1000, numbersFrom(1, 61)...))
}

// Promise 19: the giver is neither changed nor read behind its length.
func TestGiversAreLeftAlone(t *testing.T) {
	eachGiverCall(func(g impl.Giver, s impl.IdStep) {
		list, whole := withTail(g.Given)
		before := slices.Clone(whole)
		got := callGiver(giverOf(g.Next, g.Asked, g.Sure, list...), s)
		if !slices.Equal(whole, before) {
			t.Fatalf("changed %#v %v: %v", g, s, whole)
		}
		clean := giverOf(g.Next, g.Asked, g.Sure, slices.Clip(slices.Clone(g.Given))...)
		if want := callGiver(clean, s); !equalGiverCalls(got, want) {
			t.Fatalf("read behind the length %#v %v: %#v, not %#v", g, s, got, want)
		}
	})
}

// Promise 19: the steps are neither changed nor read behind their length.
func TestStepsAreLeftAlone(t *testing.T) {
	check := func(l []impl.IdStep) {
		t.Helper()
		whole := append(slices.Clone(l), syncStep, giveStep, crashStep)
		before := slices.Clone(whole)
		g, did, ok := impl.PlayGiver(whole[:len(l)])
		if !slices.Equal(whole, before) {
			t.Fatal("changed", l, whole)
		}
		clean, cleanDid, cleanOk := impl.PlayGiver(slices.Clip(slices.Clone(l)))
		if !equalGivers(g, clean) || !slices.Equal(did, cleanDid) || ok != cleanOk {
			t.Fatal("read behind the length", l, g, did, ok)
		}
	}
	eachExecution(check)
	for long := 38; long <= 43; long++ {
		check(mixedIdSteps(long, 3, 4, 2, 1, 1))
		check(make([]impl.IdStep, long))
	}
}

// What is returned may be overwritten without effect on the argument or on other results; and so may the argument.
func TestGiversShareNoMemory(t *testing.T) {
	eachGiver(func(g impl.Giver) {
		for _, s := range idSteps {
			list, whole := withTail(g.Given)
			before := slices.Clone(whole)
			given := giverOf(g.Next, g.Asked, g.Sure, list...)
			first, _ := impl.StepGiver(given, s)
			second, ok := impl.StepGiver(given, s)
			overwrite(first.Given)
			want, is := stepIn(g, s)
			if !slices.Equal(whole, before) || !equalGivers(second, want) || ok != is {
				t.Fatalf("shared %#v %v: %v %#v", g, s, whole, second)
			}
			overwrite(list)
			if !equalGivers(second, want) {
				t.Fatalf("shared with the argument %#v %v: %#v", g, s, second)
			}
		}
	})
}

// Two steps of one giver, neither of which shows in the other's result, nor in the giver.
func TestStepsOfOneGiverAreApart(t *testing.T) {
	g, _, _ := impl.PlayGiver([]impl.IdStep{syncStep, syncStep, syncStep})
	for range 12 {
		g, _ = impl.StepGiver(g, giveStep)
		before := cloneGiver(g)
		for _, s := range idSteps {
			after, _ := impl.StepGiver(g, s)
			again, _ := impl.StepGiver(after, loseStep)
			kept := cloneGiver(again)
			overwrite(after.Given)
			if !equalGivers(g, before) || !equalGivers(again, kept) {
				t.Fatal(before, s, g, again)
			}
		}
	}
}

func TestExecutionsShareNoMemory(t *testing.T) {
	eachExecution(func(l []impl.IdStep) {
		steps := slices.Clone(l)
		first, firstDid, _ := impl.PlayGiver(steps)
		second, secondDid, _ := impl.PlayGiver(steps)
		overwrite(first.Given)
		room := firstDid[:cap(firstDid)]
		for k := range room {
			room[k] = !room[k]
		}
		fresh := impl.NewGiver()
		overwrite(fresh.Given)
		for k := range steps {
			steps[k] = impl.IdStep{Kind: -7, Kept: true}
		}
		if want, wantDid := playIn(l); !equalGivers(second, want) || !slices.Equal(secondDid, wantDid) {
			t.Fatal("shared", l, second, secondDid)
		}
		checkPlay(t, l)
	})
}
