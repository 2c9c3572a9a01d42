package tests

import (
	"math"
	"slices"
	"testing"

	"loop.example/g00647/impl"
)

const (
	maxDrift      = 3
	maxClock      = 10000
	maxGrants     = 1000
	maxLeaseSteps = 40
	maxLeases     = 40

	askKind   = 1
	renewKind = 2
	endKind   = 3
)

var (
	badClocks     = []int{math.MinInt, math.MinInt + 1, math.MinInt + maxDrift, -1 << 32, -10000, -4, -3, -2, -1, 10001, 10002, 10003, 1 << 32, 1<<32 + 1, math.MaxInt - maxDrift, math.MaxInt - 2, math.MaxInt - 1, math.MaxInt}
	badHolders    = []int{math.MinInt, -1 << 32, -9, -2, -1, 0, 10, 11, 100, 1<<32 + 1, math.MaxInt}
	badLeaseTerms = []int{math.MinInt, math.MinInt + 1, -1 << 32, -100, -2, -1, 0, 101, 102, 356, 1<<32 + 1, math.MaxInt - 10000, math.MaxInt - 1, math.MaxInt}
	badKinds      = []int{math.MinInt, -1 << 32, -3, -2, -1, 0, 4, 5, 6, 257, 259, 1<<32 + 1, 1<<32 + 2, 1<<32 + 3, math.MaxInt}
	badSeqs       = []int{math.MinInt, -1 << 32, -1000, -2, -1, 1001, 1002, 1<<32 + 1, math.MaxInt - 1, math.MaxInt}
	someUntils    = []int{1, 2, 3, 4, 5, 6, 7, 10, 18, 99, 100, 101, 500, 5000, 9899, 9900, 9901, 9995, 9996, 9997, 9998, 9999, 10000}
	someTerms     = []int{1, 2, 3, 4, 5, 50, 99, 100}
	exampleSteps  = []impl.LeaseStep{askOf(1, 0, 10), askOf(2, 5, 5), askOf(2, 13, 5)}
)

func leaseOf(who int, until int, seq int) impl.Lease {
	return impl.Lease{Who: who, Until: until, Seq: seq}
}

func askOf(who int, now int, long int) impl.LeaseStep {
	return impl.LeaseStep{Kind: askKind, Who: who, Now: now, Long: long}
}

func renewOf(who int, now int, long int) impl.LeaseStep {
	return impl.LeaseStep{Kind: renewKind, Who: who, Now: now, Long: long}
}

func endOf(who int, now int) impl.LeaseStep {
	return impl.LeaseStep{Kind: endKind, Who: who, Now: now}
}

// eachSomeLease gives leases at the ends of all limits and between, those without a holder among them.
func eachSomeLease(f func(l impl.Lease)) {
	for _, seq := range []int{0, 1, 2, 500, 998, 999, 1000} {
		f(leaseOf(0, 0, seq))
		for _, who := range []int{1, 2, 5, 8, 9} {
			for _, until := range someUntils {
				f(leaseOf(who, until, seq))
			}
		}
	}
}

// clocksNear holds the clock values around the expiry, and those at the ends.
func clocksNear(until int) []int {
	var clocks []int
	for now := -1; now <= 4; now++ {
		clocks = append(clocks, now, maxClock-now)
	}
	for more := -103; more <= 103; more++ {
		if more >= -7 && more <= 7 || more <= -98 || more >= 98 {
			clocks = append(clocks, until+more)
		}
	}
	clocks = slices.DeleteFunc(clocks, func(now int) bool { return now < 0 || now > maxClock })
	slices.Sort(clocks)
	return slices.Compact(clocks)
}

// badLeases have one field that is not valid, alone or for its Who.
func badLeases() []impl.Lease {
	var l []impl.Lease
	for _, seq := range []int{0, 1, 1000} {
		for _, who := range badHolders {
			for _, until := range []int{1, 2, 18, 10000} {
				l = append(l, leaseOf(who, until, seq))
			}
			if who != 0 {
				l = append(l, leaseOf(who, 0, seq))
			}
		}
		for _, who := range []int{0, 1, 5, 9} {
			for _, until := range badClocks {
				l = append(l, leaseOf(who, until, seq))
			}
		}
		for who := 1; who <= 9; who++ {
			l = append(l, leaseOf(who, 0, seq))
		}
	}
	for _, seq := range badSeqs {
		for _, who := range []int{1, 9} {
			l = append(l, leaseOf(who, 1, seq), leaseOf(who, 10000, seq))
		}
		l = append(l, leaseOf(0, 0, seq))
	}
	return l
}

// leaseStepIn performs a step of a valid lease as the document's table has it.
func leaseStepIn(l impl.Lease, s impl.LeaseStep) (impl.Lease, bool) {
	isFree := l.Who == 0 || s.Now >= l.Until+maxDrift
	isOwn := l.Who == s.Who
	isValid := s.Who >= 1 && s.Who <= 9 && s.Now >= 0 && s.Now <= maxClock
	isTerm := s.Long >= 1 && s.Long <= 100
	after := l
	switch {
	case isValid && isTerm && isFree && s.Kind == askKind:
		after = leaseOf(s.Who, s.Now+s.Long, l.Seq+1)
	case isValid && isTerm && isOwn && s.Now < l.Until && s.Kind == renewKind:
		if s.Now+s.Long > l.Until {
			after.Until = s.Now + s.Long
		}
	case isValid && isOwn && s.Long == 0 && s.Kind == endKind:
		after = leaseOf(0, 0, l.Seq)
	default:
		return impl.Lease{}, false
	}
	if after.Until > maxClock || after.Seq > maxGrants {
		return impl.Lease{}, false
	}
	return after, true
}

func playLeaseIn(s []impl.LeaseStep) (impl.Lease, []impl.Lease) {
	var l impl.Lease
	var all []impl.Lease
	for _, step := range s {
		if after, ok := leaseStepIn(l, step); ok {
			l = after
		}
		all = append(all, l)
	}
	return l, all
}

// usedIn tries all clock values that differ from now by at most drift.
func usedIn(l impl.Lease, now int, drift int) bool {
	for clock := now - drift; clock <= now+drift; clock++ {
		if clock >= 0 && clock <= maxClock && clock+maxDrift < l.Until {
			return true
		}
	}
	return false
}

// overlapIn tries all pairs of leases.
func overlapIn(l []impl.Lease, now int, drift int) bool {
	for i, a := range l {
		for _, b := range l[:i] {
			if a.Who != b.Who && usedIn(a, now, drift) && usedIn(b, now, drift) {
				return true
			}
		}
	}
	return false
}

func checkLeaseStep(t *testing.T, l impl.Lease, s impl.LeaseStep) {
	t.Helper()
	after, ok := impl.StepLease(l, s)
	want, is := leaseStepIn(l, s)
	if after != want || ok != is {
		t.Fatalf("%#v %#v: %#v %v, not %#v %v", l, s, after, ok, want, is)
	}
	if ok && !impl.GoodLease(after) {
		t.Fatalf("not valid %#v %#v: %#v", l, s, after)
	}
}

func checkPlayLease(t *testing.T, s []impl.LeaseStep) {
	t.Helper()
	l, all, ok := impl.PlayLease(s)
	want, wantAll := playLeaseIn(s)
	if l != want || !slices.Equal(all, wantAll) || !ok {
		t.Fatalf("%v: %v %v %v, not %v %v", s, l, all, ok, want, wantAll)
	}
}

func checkOverlap(t *testing.T, l []impl.Lease, now int, drift int, want bool) {
	t.Helper()
	if may, ok := impl.MayOverlap(l, now, drift); may != want || !ok {
		t.Fatalf("%v %d %d: %v %v, not %v", l, now, drift, may, ok, want)
	}
}

func checkHeld(t *testing.T, l impl.Lease, now int, want int) {
	t.Helper()
	if who, ok := impl.HeldAt(l, now); who != want || !ok {
		t.Fatalf("%#v %d: %d %v, not %d", l, now, who, ok, want)
	}
}

func checkBelieves(t *testing.T, l impl.Lease, clock int, want bool) {
	t.Helper()
	if uses, ok := impl.BelievesAt(l, clock); uses != want || !ok {
		t.Fatalf("%#v %d: %v %v, not %v", l, clock, uses, ok, want)
	}
}

// checkNoUse follows an execution and keeps account of the lease that each holder was last told of, until it ends it by itself: where the lease is granted, no other holder may use its own one, whatever its clock shows within MaxDrift of the server time. It returns how many grants it saw while another holder had a lease that it did not end.
func checkNoUse(t *testing.T, s []impl.LeaseStep) int {
	t.Helper()
	_, all, ok := impl.PlayLease(s)
	if !ok || len(all) != len(s) {
		t.Fatal(s, all, ok)
	}
	told := map[int]impl.Lease{}
	var before impl.Lease
	seen := 0
	for k, step := range s {
		after := all[k]
		isGranted := after.Seq == before.Seq+1
		if isGranted && (step.Kind != askKind || after.Who != step.Who || after.Until != step.Now+step.Long) {
			t.Fatal("granted without being asked for", s[:k+1], before, after)
		}
		if !isGranted && (after.Seq != before.Seq || after.Who != before.Who && after.Who != 0) {
			t.Fatal("another holder without a grant", s[:k+1], before, after)
		}
		for who, l := range told {
			if isGranted && who != after.Who {
				refuseUse(t, l, step.Now)
				seen++
			}
		}
		if after != before && after.Who == 0 {
			if step.Kind != endKind || step.Who != before.Who {
				t.Fatal("ended by another one", s[:k+1], before, after)
			}
			delete(told, before.Who)
		} else if after.Who != 0 {
			told[after.Who] = after
		}
		before = after
	}
	return seen
}

// refuseUse fails if the holder uses the lease at a clock value within MaxDrift of now, as BelievesAt has it and as the document has it.
func refuseUse(t *testing.T, l impl.Lease, now int) {
	t.Helper()
	for clock := max(now-maxDrift, 0); clock <= min(now+maxDrift, maxClock); clock++ {
		if uses, ok := impl.BelievesAt(l, clock); uses || !ok || clock+maxDrift < l.Until {
			t.Fatalf("used when granted to another holder: %#v at %d, by a clock that shows %d (%v %v)", l, now, clock, uses, ok)
		}
	}
}

func TestLeaseConstants(t *testing.T) {
	if impl.MaxDrift != maxDrift || impl.LsAsk != askKind || impl.LsRenew != renewKind || impl.LsEnd != endKind {
		t.Fatal(impl.MaxDrift, impl.LsAsk, impl.LsRenew, impl.LsEnd)
	}
}

func TestGoodLease(t *testing.T) {
	eachSomeLease(func(l impl.Lease) {
		if !impl.GoodLease(l) {
			t.Fatalf("%#v", l)
		}
	})
	for who := -2; who <= 12; who++ {
		for until := -2; until <= maxClock+2; until++ {
			isHeld := who >= 1 && who <= 9 && until >= 1 && until <= 10000
			if is := impl.GoodLease(leaseOf(who, until, 1000)); is != (isHeld || who == 0 && until == 0) {
				t.Fatal(who, until, is)
			}
		}
	}
	for seq := -2; seq <= maxGrants+2; seq++ {
		want := seq >= 0 && seq <= 1000
		for _, l := range []impl.Lease{leaseOf(0, 0, seq), leaseOf(1, 1, seq), leaseOf(9, 10000, seq)} {
			if is := impl.GoodLease(l); is != want {
				t.Fatal(l, is)
			}
		}
	}
}

// Worked out apart from the program.
func TestKnownHolders(t *testing.T) {
	for _, x := range []struct {
		l   impl.Lease
		now int
		who int
	}{
		{leaseOf(2, 18, 2), 18, 0},
		{leaseOf(2, 18, 2), 17, 2},
		{leaseOf(2, 18, 2), 0, 2},
		{leaseOf(2, 18, 2), 19, 0},
		{leaseOf(2, 18, 2), 10000, 0},
		{leaseOf(1, 1, 0), 0, 1},
		{leaseOf(1, 1, 0), 1, 0},
		{leaseOf(9, 10000, 1000), 9999, 9},
		{leaseOf(9, 10000, 1000), 10000, 0},
		{leaseOf(9, 10000, 1000), 0, 9},
		{leaseOf(0, 0, 0), 0, 0},
		{leaseOf(0, 0, 1000), 0, 0},
		{leaseOf(0, 0, 7), 10000, 0},
	} {
		checkHeld(t, x.l, x.now, x.who)
	}
}

func TestHeldAt(t *testing.T) {
	eachSomeLease(func(l impl.Lease) {
		for _, now := range clocksNear(l.Until) {
			want := l.Who
			if now >= l.Until {
				want = 0
			}
			checkHeld(t, l, now, want)
		}
	})
	for now := range maxClock + 1 {
		checkHeld(t, leaseOf(0, 0, 1), now, 0)
		checkHeld(t, leaseOf(4, 5000, 1), now, 4*max(0, min(1, 5000-now)))
		checkHeld(t, leaseOf(4, max(now, 1), 1), max(now, 1), 0)
	}
}

// Worked out apart from the program.
func TestKnownBeliefs(t *testing.T) {
	for _, x := range []struct {
		l     impl.Lease
		clock int
		uses  bool
	}{
		{leaseOf(2, 18, 2), 14, true},
		{leaseOf(2, 18, 2), 15, false},
		{leaseOf(2, 18, 2), 0, true},
		{leaseOf(2, 18, 2), 18, false},
		{leaseOf(2, 18, 2), 10000, false},
		{leaseOf(1, 1, 1), 0, false},
		{leaseOf(1, 2, 1), 0, false},
		{leaseOf(1, 3, 1), 0, false},
		{leaseOf(1, 4, 1), 0, true},
		{leaseOf(1, 4, 1), 1, false},
		{leaseOf(1, 5, 1), 1, true},
		{leaseOf(9, 10000, 1000), 9996, true},
		{leaseOf(9, 10000, 1000), 9997, false},
		{leaseOf(9, 10000, 1000), 10000, false},
		{leaseOf(0, 0, 0), 0, false},
		{leaseOf(0, 0, 1000), 0, false},
		{leaseOf(0, 0, 1), 10000, false},
	} {
		checkBelieves(t, x.l, x.clock, x.uses)
	}
}

func TestBelievesAt(t *testing.T) {
	eachSomeLease(func(l impl.Lease) {
		for _, clock := range clocksNear(l.Until) {
			checkBelieves(t, l, clock, clock <= l.Until-maxDrift-1)
		}
	})
	for clock := range maxClock + 1 {
		checkBelieves(t, leaseOf(0, 0, 1), clock, false)
		checkBelieves(t, leaseOf(3, 5000, 1), clock, clock < 4997)
		if clock <= maxClock-4 {
			checkBelieves(t, leaseOf(3, clock+3, 1), clock, false)
			checkBelieves(t, leaseOf(3, clock+4, 1), clock, true)
		}
	}
}

// A holder that uses its lease by a clock within MaxDrift of the server time still holds it there.
func TestUsedLeasesAreHeld(t *testing.T) {
	eachSomeLease(func(l impl.Lease) {
		for _, now := range clocksNear(l.Until) {
			who, _ := impl.HeldAt(l, now)
			for clock := max(now-maxDrift, 0); clock <= min(now+maxDrift, maxClock); clock++ {
				if uses, ok := impl.BelievesAt(l, clock); !ok || uses && (who == 0 || who != l.Who) {
					t.Fatalf("%#v %d %d: %v, %d", l, now, clock, uses, who)
				}
			}
		}
	})
}

// Worked out apart from the program.
func TestKnownLeaseSteps(t *testing.T) {
	for _, x := range []struct {
		l     impl.Lease
		s     impl.LeaseStep
		after impl.Lease
	}{
		{leaseOf(0, 0, 0), askOf(1, 0, 10), leaseOf(1, 10, 1)},
		{leaseOf(0, 0, 0), askOf(9, 0, 1), leaseOf(9, 1, 1)},
		{leaseOf(0, 0, 0), askOf(1, 0, 100), leaseOf(1, 100, 1)},
		{leaseOf(0, 0, 5), askOf(4, 1, 3), leaseOf(4, 4, 6)},
		{leaseOf(0, 0, 5), askOf(4, 2, 3), leaseOf(4, 5, 6)},
		{leaseOf(0, 0, 999), askOf(3, 7, 5), leaseOf(3, 12, 1000)},
		{leaseOf(0, 0, 3), askOf(3, 9900, 100), leaseOf(3, 10000, 4)},
		{leaseOf(0, 0, 3), askOf(3, 9999, 1), leaseOf(3, 10000, 4)},
		{leaseOf(1, 10, 1), askOf(2, 13, 5), leaseOf(2, 18, 2)},
		{leaseOf(1, 10, 1), askOf(2, 14, 5), leaseOf(2, 19, 2)},
		{leaseOf(1, 10, 1), askOf(1, 13, 5), leaseOf(1, 18, 2)},
		{leaseOf(1, 1, 1), askOf(2, 4, 1), leaseOf(2, 5, 2)},
		{leaseOf(1, 2, 1), askOf(2, 10, 1), leaseOf(2, 11, 2)},
		{leaseOf(1, 9996, 1), askOf(2, 9999, 1), leaseOf(2, 10000, 2)},
		{leaseOf(8, 18, 999), askOf(9, 21, 5), leaseOf(9, 26, 1000)},

		{leaseOf(2, 18, 2), renewOf(2, 17, 1), leaseOf(2, 18, 2)},
		{leaseOf(2, 18, 2), renewOf(2, 17, 2), leaseOf(2, 19, 2)},
		{leaseOf(2, 18, 2), renewOf(2, 17, 100), leaseOf(2, 117, 2)},
		{leaseOf(2, 18, 2), renewOf(2, 5, 13), leaseOf(2, 18, 2)},
		{leaseOf(2, 18, 2), renewOf(2, 5, 12), leaseOf(2, 18, 2)},
		{leaseOf(2, 18, 2), renewOf(2, 5, 1), leaseOf(2, 18, 2)},
		{leaseOf(2, 18, 2), renewOf(2, 5, 14), leaseOf(2, 19, 2)},
		{leaseOf(2, 18, 2), renewOf(2, 0, 100), leaseOf(2, 100, 2)},
		{leaseOf(1, 1, 0), renewOf(1, 0, 3), leaseOf(1, 3, 0)},
		{leaseOf(9, 18, 1000), renewOf(9, 10, 20), leaseOf(9, 30, 1000)},
		{leaseOf(5, 9990, 7), renewOf(5, 9980, 20), leaseOf(5, 10000, 7)},
		{leaseOf(5, 10000, 7), renewOf(5, 9999, 1), leaseOf(5, 10000, 7)},

		{leaseOf(2, 18, 2), endOf(2, 14), leaseOf(0, 0, 2)},
		{leaseOf(2, 18, 2), endOf(2, 0), leaseOf(0, 0, 2)},
		{leaseOf(2, 18, 2), endOf(2, 18), leaseOf(0, 0, 2)},
		{leaseOf(2, 18, 2), endOf(2, 21), leaseOf(0, 0, 2)},
		{leaseOf(2, 18, 2), endOf(2, 10000), leaseOf(0, 0, 2)},
		{leaseOf(1, 10, 0), endOf(1, 5), leaseOf(0, 0, 0)},
		{leaseOf(9, 10000, 1000), endOf(9, 9999), leaseOf(0, 0, 1000)},
	} {
		if after, ok := impl.StepLease(x.l, x.s); !ok || after != x.after {
			t.Errorf("%v %v: %v %v, not %v", x.l, x.s, after, ok, x.after)
		}
	}
}

func TestKnownRefusedLeaseSteps(t *testing.T) {
	for _, x := range []struct {
		l impl.Lease
		s impl.LeaseStep
	}{
		{leaseOf(1, 10, 1), askOf(2, 5, 5)},
		{leaseOf(1, 10, 1), askOf(2, 9, 5)},
		{leaseOf(1, 10, 1), askOf(2, 10, 5)},
		{leaseOf(1, 10, 1), askOf(2, 11, 5)},
		{leaseOf(1, 10, 1), askOf(2, 12, 5)},
		{leaseOf(1, 10, 1), askOf(1, 5, 5)},
		{leaseOf(1, 10, 1), askOf(1, 12, 5)},
		{leaseOf(1, 1, 1), askOf(2, 0, 5)},
		{leaseOf(1, 1, 1), askOf(2, 1, 5)},
		{leaseOf(1, 1, 1), askOf(2, 2, 5)},
		{leaseOf(1, 1, 1), askOf(2, 3, 5)},
		{leaseOf(0, 0, 1000), askOf(2, 3, 5)},
		{leaseOf(1, 10, 1000), askOf(2, 13, 5)},
		{leaseOf(1, 10, 1000), askOf(1, 13, 5)},
		{leaseOf(0, 0, 1), askOf(2, 9901, 100)},
		{leaseOf(0, 0, 1), askOf(2, 9999, 2)},
		{leaseOf(0, 0, 1), askOf(2, 10000, 1)},
		{leaseOf(0, 0, 1), askOf(2, 10000, 100)},
		{leaseOf(2, 18, 2), renewOf(2, 18, 5)},
		{leaseOf(2, 18, 2), renewOf(2, 19, 5)},
		{leaseOf(2, 18, 2), renewOf(1, 17, 5)},
		{leaseOf(2, 18, 2), renewOf(1, 0, 5)},
		{leaseOf(0, 0, 2), renewOf(2, 0, 5)},
		{leaseOf(0, 0, 0), renewOf(1, 17, 5)},
		{leaseOf(2, 9950, 2), renewOf(2, 9901, 100)},
		{leaseOf(2, 10000, 2), renewOf(2, 9999, 2)},
		{leaseOf(2, 10000, 2), renewOf(2, 10000, 1)},
		{leaseOf(2, 18, 2), endOf(1, 14)},
		{leaseOf(2, 18, 2), endOf(3, 18)},
		{leaseOf(2, 18, 2), endOf(9, 100)},
		{leaseOf(0, 0, 2), endOf(2, 14)},
		{leaseOf(0, 0, 0), endOf(1, 0)},
	} {
		refuseLeaseStep(t, x.l, x.s)
	}
}

func TestStepLease(t *testing.T) {
	eachSomeLease(func(l impl.Lease) {
		for _, now := range clocksNear(l.Until) {
			for _, who := range []int{1, 2, 9} {
				checkLeaseStep(t, l, endOf(who, now))
				for _, long := range someTerms {
					checkLeaseStep(t, l, askOf(who, now, long))
					checkLeaseStep(t, l, renewOf(who, now, long))
				}
				for _, until := range []int{l.Until - 1, l.Until, l.Until + 1, maxClock, maxClock + 1} {
					checkLeaseStep(t, l, askOf(who, now, until-now))
					checkLeaseStep(t, l, renewOf(who, now, until-now))
				}
			}
		}
	})
}

// Every holder, holding and asking, with every term.
func TestStepsOfAllHolders(t *testing.T) {
	for holder := range 10 {
		l := leaseOf(holder, 60*min(holder, 1), 3)
		for who := 1; who <= 9; who++ {
			for _, now := range clocksNear(60) {
				checkLeaseStep(t, l, endOf(who, now))
			}
			for long := range 103 {
				for _, now := range []int{0, 10, 59, 60, 62, 63, 64, 9900} {
					checkLeaseStep(t, l, askOf(who, now, long))
					checkLeaseStep(t, l, renewOf(who, now, long))
				}
			}
		}
	}
}

// A lease is granted anew until Seq has reached its limit, and can then only be renewed and ended.
func TestGrantsUpToTheLimit(t *testing.T) {
	var l impl.Lease
	for seq := 1; seq <= maxGrants; seq++ {
		now := 4 * seq
		after, ok := impl.StepLease(l, askOf(seq%9+1, now, 1))
		if !ok || after != leaseOf(seq%9+1, now+1, seq) {
			t.Fatal(seq, l, after, ok)
		}
		l = after
	}
	refuseLeaseStep(t, l, askOf(l.Who, 4004, 1))
	refuseLeaseStep(t, l, askOf(l.Who%9+1, 4004, 1))
	checkLeaseStep(t, l, renewOf(l.Who, 4000, 50))
	after, ok := impl.StepLease(l, endOf(l.Who, 4004))
	if !ok || after != leaseOf(0, 0, 1000) {
		t.Fatal(l, after, ok)
	}
	refuseLeaseStep(t, after, askOf(1, 4004, 1))
}

func TestKnownLeaseExecutions(t *testing.T) {
	idle := slices.Repeat([]impl.LeaseStep{askOf(1, 10000, 1)}, 40)
	handed := []impl.LeaseStep{askOf(1, 7, 2), endOf(1, 7), askOf(2, 7, 2), endOf(2, 7), askOf(3, 7, 2), askOf(1, 7, 9), renewOf(3, 7, 4), renewOf(3, 11, 4), endOf(1, 11), askOf(1, 13, 9), askOf(1, 14, 9)}
	for _, x := range []struct {
		s   []impl.LeaseStep
		all []impl.Lease
	}{
		{nil, nil},
		{[]impl.LeaseStep{}, nil},
		{exampleSteps, []impl.Lease{leaseOf(1, 10, 1), leaseOf(1, 10, 1), leaseOf(2, 18, 2)}},
		{[]impl.LeaseStep{{}}, []impl.Lease{{}}},
		{[]impl.LeaseStep{renewOf(1, 0, 5), endOf(1, 0), askOf(0, 0, 5), askOf(1, 0, 0)}, make([]impl.Lease, 4)},
		{[]impl.LeaseStep{askOf(3, 0, 5), endOf(3, 2)}, []impl.Lease{leaseOf(3, 5, 1), leaseOf(0, 0, 1)}},
		{[]impl.LeaseStep{askOf(3, 0, 5), endOf(3, 2), askOf(4, 2, 9)}, []impl.Lease{leaseOf(3, 5, 1), leaseOf(0, 0, 1), leaseOf(4, 11, 2)}},
		{idle, make([]impl.Lease, 40)},
		{handed, []impl.Lease{leaseOf(1, 9, 1), leaseOf(0, 0, 1), leaseOf(2, 9, 2), leaseOf(0, 0, 2), leaseOf(3, 9, 3), leaseOf(3, 9, 3), leaseOf(3, 11, 3), leaseOf(3, 11, 3), leaseOf(3, 11, 3), leaseOf(3, 11, 3), leaseOf(1, 23, 4)}},
	} {
		l, all, ok := impl.PlayLease(x.s)
		var last impl.Lease
		if len(x.all) > 0 {
			last = x.all[len(x.all)-1]
		}
		if !ok || l != last || !slices.Equal(all, x.all) {
			t.Errorf("%v: %v %v %v, not %v", x.s, l, all, ok, x.all)
		}
	}
}

// The 40 steps that are allowed, each of which is performed.
func TestFortyLeaseSteps(t *testing.T) {
	var asks, renewals, ends []impl.LeaseStep
	var asked, renewed, ended []impl.Lease
	for k := range maxLeaseSteps {
		asks = append(asks, askOf(k%9+1, 4*k, 1))
		asked = append(asked, leaseOf(k%9+1, 4*k+1, k+1))
		renewals = append(renewals, renewOf(7, 99*k, 100))
		renewed = append(renewed, leaseOf(7, 99*k+100, 1))
		if k%2 == 0 {
			ends = append(ends, askOf(k%9+1, 50, 100))
			ended = append(ended, leaseOf(k%9+1, 150, k/2+1))
		} else {
			ends = append(ends, endOf((k-1)%9+1, 50))
			ended = append(ended, leaseOf(0, 0, k/2+1))
		}
	}
	renewals[0].Kind = askKind
	for _, x := range []struct {
		s   []impl.LeaseStep
		all []impl.Lease
	}{{asks, asked}, {renewals, renewed}, {ends, ended}} {
		l, all, ok := impl.PlayLease(x.s)
		if !ok || l != x.all[39] || !slices.Equal(all, x.all) {
			t.Errorf("%v: %v %v %v, not %v", x.s, l, all, ok, x.all)
		}
	}
}

// mixedLeaseSteps has steps of a few holders, mostly around the time at which the lease expires: by gap many ticks on the average, for terms of at most term, and as many of each kind as the weights say.
func mixedLeaseSteps(count int, seed uint64, gap int, term int, weights [3]int) []impl.LeaseStep {
	var kinds []int
	for k, weight := range weights {
		kinds = append(kinds, slices.Repeat([]int{k + 1}, weight)...)
	}
	numbers := mixedRows(16, 4*count, seed+9000)
	holders := 1 + int(seed%5)
	now := int(seed%7) * 3
	var s []impl.LeaseStep
	for k := range count {
		n := numbers[4*k : 4*k+4]
		now = min(now+n[0]%(2*gap+1), maxClock)
		step := impl.LeaseStep{Kind: kinds[n[1]%len(kinds)], Who: n[2]%holders + 1, Now: now}
		if step.Kind != endKind {
			step.Long = n[3]%term + 1
		}
		s = append(s, step)
	}
	return s
}

// eachLeaseExecution gives all sequences of up to three steps of a small choice, at equal times and at times around the expiry, and mixed ones of all lengths, with many ends and with none, at the first clock values and at the last ones.
func eachLeaseExecution(f func(s []impl.LeaseStep)) {
	lists := [][]impl.LeaseStep{nil}
	for range 3 {
		var longer [][]impl.LeaseStep
		for _, s := range lists {
			f(s)
			now := 0
			if len(s) > 0 {
				now = s[len(s)-1].Now
			}
			for _, more := range []int{0, 1, 4, 5, 6} {
				for who := 1; who <= 2; who++ {
					for _, step := range []impl.LeaseStep{askOf(who, now+more, 2), askOf(who, now+more, 5), renewOf(who, now+more, 3), endOf(who, now+more)} {
						longer = append(longer, append(slices.Clone(s), step))
					}
				}
			}
		}
		lists = longer
	}
	for _, s := range lists {
		f(s)
	}
	for count := range maxLeaseSteps + 1 {
		for seed := range uint64(12) {
			for _, weights := range [][3]int{{1, 1, 1}, {3, 1, 0}, {1, 0, 0}, {4, 2, 1}, {5, 1, 1}} {
				for _, gap := range []int{1, 2, 5} {
					seed := seed*1000 + uint64(10*count+gap)
					f(mixedLeaseSteps(count, seed, gap, 8, weights))
					f(mixedLeaseSteps(count, seed, 20*gap, 100, weights))
					f(lateSteps(mixedLeaseSteps(count, seed, gap, 8, weights)))
				}
			}
		}
	}
	f(exampleSteps)
}

// lateSteps moves the steps to the end of the clock values.
func lateSteps(s []impl.LeaseStep) []impl.LeaseStep {
	late := slices.Clone(s)
	for k := range late {
		late[k].Now += maxClock - s[len(s)-1].Now
	}
	return late
}

func TestPlayLease(t *testing.T) {
	eachLeaseExecution(func(s []impl.LeaseStep) { checkPlayLease(t, s) })
	for _, s := range badLeaseSteps() {
		for _, l := range [][]impl.LeaseStep{{s}, {s, s}, slices.Repeat([]impl.LeaseStep{s}, 40)} {
			checkPlayLease(t, l)
		}
		among := []impl.LeaseStep{askOf(1, 5, 3), s, endOf(1, 9)}
		if s.Now >= 5 && s.Now <= 9 {
			checkPlayLease(t, among)
		}
	}
}

// A step with a time that is no clock value is not enabled; only the order of the times is asked of the list.
func TestPlayLeaseWithOtherTimes(t *testing.T) {
	held := leaseOf(1, 3, 1)
	for _, x := range []struct {
		s   []impl.LeaseStep
		all []impl.Lease
	}{
		{[]impl.LeaseStep{askOf(1, -1, 3), askOf(1, 0, 3)}, []impl.Lease{{}, held}},
		{[]impl.LeaseStep{askOf(2, math.MinInt, 3), askOf(3, -1, 3), askOf(1, 0, 3)}, []impl.Lease{{}, {}, held}},
		{[]impl.LeaseStep{askOf(1, 0, 3), endOf(1, 10001), endOf(1, math.MaxInt)}, []impl.Lease{held, held, held}},
	} {
		l, all, ok := impl.PlayLease(x.s)
		if !ok || l != held || !slices.Equal(all, x.all) {
			t.Errorf("%v: %v %v %v, not %v", x.s, l, all, ok, x.all)
		}
	}
	refusePlayLease(t, []impl.LeaseStep{askOf(1, 0, 3), askOf(1, -1, 3)})
	refusePlayLease(t, []impl.LeaseStep{askOf(1, 10001, 3), askOf(1, 10000, 3)})
	refusePlayLease(t, []impl.LeaseStep{askOf(1, math.MaxInt, 3), askOf(1, math.MinInt, 3)})
}

// Promise 12: where the lease is granted, no other holder that did not end its lease uses it.
func TestNoTwoHoldersUseTheLease(t *testing.T) {
	seen := 0
	eachLeaseExecution(func(s []impl.LeaseStep) { seen += checkNoUse(t, s) })
	if seen < 1000 {
		t.Fatal("too few grants while another holder had a lease", seen)
	}
}

// Promise 12 as late as it matters: another holder asks at each tick, and is granted the lease MaxDrift ticks after it has expired, not before.
func TestLeaseIsGrantedOnlyOnceItExpired(t *testing.T) {
	for _, until := range someUntils {
		l := leaseOf(1, until, 1)
		for now := max(until-110, 0); now < maxClock; now++ {
			after, ok := impl.StepLease(l, askOf(2, now, 1))
			if ok != (now >= until+maxDrift) {
				t.Fatal(l, now, after, ok)
			}
			if ok {
				refuseUse(t, l, now)
				break
			}
		}
	}
}

// Promise 12 with a holder that renews its lease at every tick until it stops.
func TestRenewedLeaseIsGrantedOnlyOnceItExpired(t *testing.T) {
	for stop := 1; stop <= 20; stop++ {
		s := []impl.LeaseStep{askOf(1, 0, 2)}
		for now := 1; now <= 26; now++ {
			if now < stop {
				s = append(s, renewOf(1, now, 2))
			} else {
				s = append(s, askOf(2, now, 1))
			}
		}
		_, all, ok := impl.PlayLease(s)
		if !ok {
			t.Fatal(stop, all)
		}
		for now, l := range all {
			if want := now >= stop+1+maxDrift; (l.Who == 2) != want {
				t.Fatal(stop, now, all)
			}
		}
		if checkNoUse(t, s) == 0 {
			t.Fatal("not granted to another holder", stop, all)
		}
	}
}

// Worked out apart from the program. The leases of 1 and 2 are used until 6 and 14, by their holders' clocks.
func TestKnownOverlaps(t *testing.T) {
	a, b := leaseOf(1, 10, 1), leaseOf(2, 18, 2)
	example := []impl.Lease{a, a, b}
	low, top := leaseOf(3, 4, 3), leaseOf(4, 10000, 4)
	for _, x := range []struct {
		l     []impl.Lease
		now   int
		drift int
		may   bool
	}{
		{nil, 0, 0, false},
		{[]impl.Lease{}, 10000, 3, false},
		{[]impl.Lease{a}, 0, 3, false},
		{example, 0, 0, true},
		{example, 6, 0, true},
		{example, 7, 0, false},
		{example, 7, 1, true},
		{example, 8, 1, false},
		{example, 8, 2, true},
		{example, 9, 2, false},
		{example, 9, 3, true},
		{example, 10, 3, false},
		{example, 10000, 3, false},
		{[]impl.Lease{b, a}, 9, 3, true},
		{[]impl.Lease{b, a}, 9, 2, false},
		{[]impl.Lease{a, a}, 0, 3, false},
		{[]impl.Lease{a, leaseOf(1, 18, 2)}, 0, 0, false},
		{[]impl.Lease{a, leaseOf(1, 18, 2), b}, 0, 0, true},
		{[]impl.Lease{a, leaseOf(0, 0, 1)}, 0, 3, false},
		{[]impl.Lease{leaseOf(0, 0, 1), leaseOf(0, 0, 2)}, 0, 3, false},
		{[]impl.Lease{leaseOf(0, 0, 1), b, leaseOf(0, 0, 2), a}, 0, 0, true},
		{[]impl.Lease{leaseOf(1, 3, 1), b}, 0, 3, false},
		{[]impl.Lease{low, b}, 0, 0, true},
		{[]impl.Lease{low, b}, 1, 0, false},
		{[]impl.Lease{low, b}, 1, 1, true},
		{[]impl.Lease{low, b}, 0, 3, true},
		{[]impl.Lease{low, b}, 2, 3, true},
		{[]impl.Lease{low, b}, 3, 3, true},
		{[]impl.Lease{low, b}, 3, 2, false},
		{[]impl.Lease{low, b}, 4, 3, false},
		{[]impl.Lease{top, leaseOf(5, 10000, 5)}, 9996, 0, true},
		{[]impl.Lease{top, leaseOf(5, 10000, 5)}, 9997, 0, false},
		{[]impl.Lease{top, leaseOf(5, 10000, 5)}, 9999, 3, true},
		{[]impl.Lease{top, leaseOf(5, 10000, 5)}, 9999, 2, false},
		{[]impl.Lease{top, leaseOf(5, 10000, 5)}, 10000, 3, false},
		{[]impl.Lease{top, leaseOf(5, 9999, 5)}, 9999, 3, false},
		{slices.Repeat([]impl.Lease{a}, 40), 0, 0, false},
		{append(slices.Repeat([]impl.Lease{a}, 39), b), 0, 0, true},
		{append([]impl.Lease{b}, slices.Repeat([]impl.Lease{a}, 39)...), 6, 0, true},
		{append(slices.Repeat([]impl.Lease{a}, 39), b), 7, 0, false},
	} {
		checkOverlap(t, x.l, x.now, x.drift, x.may)
	}
}

// eachLeaseList gives lists of no, one, two, three, 39 and 40 mixed leases, with expiries that are near each other, at the first clock values, between, and at the last ones.
func eachLeaseList(f func(l []impl.Lease, near int)) {
	for _, near := range []int{0, 3, 12, 400, 5000, 9970, 9990} {
		for _, count := range []int{0, 1, 2, 3, 5, 39, 40} {
			for seed := range uint64(20) {
				numbers := mixedRows(16, 3*count, seed*100+uint64(near+count))
				var l []impl.Lease
				for k := range count {
					who := numbers[3*k] % (2 + int(seed%9))
					lease := leaseOf(who, min(near+numbers[3*k+1]%10+1, maxClock), numbers[3*k+2]%1001)
					if who == 0 {
						lease.Until = 0
					}
					l = append(l, lease)
				}
				f(l, near)
			}
		}
	}
}

func TestMayOverlap(t *testing.T) {
	found := [2]int{}
	eachLeaseList(func(l []impl.Lease, near int) {
		for now := near - 9; now <= near+16; now++ {
			for drift := 0; drift <= maxDrift && now >= 0 && now <= maxClock; drift++ {
				want := overlapIn(l, now, drift)
				checkOverlap(t, l, now, drift, want)
				if want {
					found[1]++
				} else {
					found[0]++
				}
			}
		}
	})
	if found[0] < 1000 || found[1] < 1000 {
		t.Fatal("too few of one kind", found)
	}
}

// Each pair of leases begins to overlap at the drift at which the one that expires first is used, and not at one less.
func TestLeastDriftThatOverlaps(t *testing.T) {
	for first := 1; first <= 30; first++ {
		for last := first; last <= 30; last++ {
			l := []impl.Lease{leaseOf(6, last, 2), leaseOf(5, first, 1)}
			for now := range 32 {
				for drift := range maxDrift + 1 {
					// The least clock value is now - drift, or 0.
					checkOverlap(t, l, now, drift, max(now-drift, 0) < first-maxDrift)
				}
			}
		}
	}
}

// Promise 12 as MayOverlap has it: where no one ends a lease, none of the leases so far overlap at the time of a grant, whatever the drift.
func TestLeasesDoNotOverlapAtAGrant(t *testing.T) {
	checked := 0
	eachLeaseExecution(func(s []impl.LeaseStep) {
		if slices.ContainsFunc(s, func(x impl.LeaseStep) bool { return x.Kind == endKind }) {
			return
		}
		_, all, _ := impl.PlayLease(s)
		for k := range all {
			if k > 0 && all[k].Seq > all[k-1].Seq {
				for drift := range maxDrift + 1 {
					checkOverlap(t, all[:k+1], s[k].Now, drift, false)
				}
				checked++
			}
		}
	})
	if checked < 1000 {
		t.Fatal(checked)
	}
}

func isNoLease(l impl.Lease) bool {
	return l == impl.Lease{}
}

func isFalse(b bool) bool {
	return !b
}

func refuseLeaseStep(t *testing.T, l impl.Lease, s impl.LeaseStep) {
	t.Helper()
	after, ok := impl.StepLease(l, s)
	refuse(t, "StepLease", isNoLease, after, ok, l, s)
}

func refusePlayLease(t *testing.T, s []impl.LeaseStep) {
	t.Helper()
	l, all, ok := impl.PlayLease(s)
	refuse(t, "PlayLease", isNoLease, l, ok, s)
	if len(all) != 0 {
		t.Fatal("PlayLease", s, all)
	}
}

func refuseOverlap(t *testing.T, l []impl.Lease, now int, drift int) {
	t.Helper()
	may, ok := impl.MayOverlap(l, now, drift)
	refuse(t, "MayOverlap", isFalse, may, ok, l, now, drift)
}

func refuseTime(t *testing.T, l impl.Lease, now int) {
	t.Helper()
	who, ok := impl.HeldAt(l, now)
	refuse(t, "HeldAt", isZero, who, ok, l, now)
	uses, ok := impl.BelievesAt(l, now)
	refuse(t, "BelievesAt", isFalse, uses, ok, l, now)
}

// badLeaseSteps have one number that is not valid; all else is as an enabled step of the leases that no one holds, or that 1 or 9 holds, would have it.
func badLeaseSteps() []impl.LeaseStep {
	var l []impl.LeaseStep
	for _, now := range []int{0, 5, 9} {
		for _, kind := range badKinds {
			for _, long := range []int{0, 1, 5, 100} {
				l = append(l, impl.LeaseStep{Kind: kind, Who: 1, Now: now, Long: long}, impl.LeaseStep{Kind: kind, Who: 9, Now: now, Long: long})
			}
		}
		for _, who := range badHolders {
			l = append(l, askOf(who, now, 5), renewOf(who, now, 5), endOf(who, now))
		}
		for _, long := range badLeaseTerms {
			l = append(l, askOf(1, now, long), renewOf(1, now, long), askOf(9, now, long), renewOf(9, now, long))
		}
		for _, long := range append([]int{1, 2, 5, 100}, badLeaseTerms...) {
			if long != 0 {
				l = append(l, impl.LeaseStep{Kind: endKind, Who: 1, Now: now, Long: long}, impl.LeaseStep{Kind: endKind, Who: 9, Now: now, Long: long})
			}
		}
	}
	for _, now := range badClocks {
		for _, who := range []int{1, 9} {
			l = append(l, askOf(who, now, 1), askOf(who, now, 100), renewOf(who, now, 1), renewOf(who, now, 100), endOf(who, now))
		}
	}
	return append(l, impl.LeaseStep{})
}

func TestStepLeaseRefusesOtherSteps(t *testing.T) {
	for _, s := range badLeaseSteps() {
		eachSomeLease(func(l impl.Lease) { refuseLeaseStep(t, l, s) })
	}
}

func TestOtherLeasesAreRefused(t *testing.T) {
	for _, l := range badLeases() {
		if impl.GoodLease(l) {
			t.Fatalf("GoodLease %#v", l)
		}
		for _, now := range []int{0, 1, 5, 14, 18, 50, 9999, 10000} {
			refuseTime(t, l, now)
			for _, who := range []int{1, 2, 9, min(max(l.Who, 1), 9)} {
				refuseLeaseStep(t, l, endOf(who, now))
				for _, long := range []int{1, 5, 100} {
					refuseLeaseStep(t, l, askOf(who, now, long))
					refuseLeaseStep(t, l, renewOf(who, now, long))
				}
			}
		}
		refuseLeaseStep(t, l, endOf(l.Who, 5))
		refuseLeaseStep(t, l, renewOf(l.Who, 0, 5))
	}
}

// Each of the three numbers around its limits, and all combinations of numbers near the limits of int.
func TestLeasesOfFarNumbersAreRefused(t *testing.T) {
	for _, who := range farNumbers {
		for _, until := range farNumbers {
			for _, seq := range farNumbers {
				isHeld := who >= 1 && who <= 9 && until >= 1 && until <= maxClock
				want := seq >= 0 && seq <= maxGrants && (isHeld || who == 0 && until == 0)
				l := leaseOf(who, until, seq)
				if is := impl.GoodLease(l); is != want {
					t.Fatal(l, is)
				}
				for _, now := range farNumbers {
					if !want || now < 0 || now > maxClock {
						refuseTime(t, l, now)
						refuseLeaseStep(t, l, endOf(who, now))
						refuseLeaseStep(t, l, renewOf(who, now, 3))
						refuseLeaseStep(t, l, askOf(1, now, 3))
					}
				}
			}
		}
	}
}

func TestOtherTimesAreRefused(t *testing.T) {
	for _, now := range badClocks {
		eachSomeLease(func(l impl.Lease) { refuseTime(t, l, now) })
	}
}

func TestPlayLeaseRefusesTooManySteps(t *testing.T) {
	for _, count := range []int{41, 42, 80, 296, 1000, 1 << 16} {
		refusePlayLease(t, make([]impl.LeaseStep, count))
		refusePlayLease(t, slices.Repeat([]impl.LeaseStep{askOf(1, 5, 5)}, count))
		refusePlayLease(t, mixedLeaseSteps(count, 7, 2, 8, [3]int{3, 1, 1}))
	}
}

// The last step is earlier than the one before, or the first one is later than the next, or one in the middle is earlier; also where these steps are not enabled.
func TestPlayLeaseRefusesDecreasingTimes(t *testing.T) {
	for count := 2; count <= maxLeaseSteps; count++ {
		s := mixedLeaseSteps(count, uint64(count), 3, 8, [3]int{3, 1, 1})
		for _, at := range []int{1, count / 2, count - 1} {
			at = max(at, 1)
			for _, less := range []int{1, 2, 10, 5000} {
				other := slices.Clone(s)
				other[at].Now = other[at-1].Now - less
				refusePlayLease(t, other)
				other[at].Kind = 4
				refusePlayLease(t, other)
				other[at].Kind, other[at-1].Who = endKind, 0
				refusePlayLease(t, other)
			}
		}
	}
	refusePlayLease(t, []impl.LeaseStep{askOf(1, 1, 5), askOf(1, 0, 5)})
	refusePlayLease(t, []impl.LeaseStep{askOf(1, 0, 5), {Now: 2}, {Now: 1}})
}

func TestMayOverlapRefusesOtherArguments(t *testing.T) {
	eachLeaseList(func(l []impl.Lease, near int) {
		for _, now := range badClocks {
			refuseOverlap(t, l, now, 0)
			refuseOverlap(t, l, now, maxDrift)
		}
		for _, drift := range []int{math.MinInt, -1 << 32, -4, -3, -2, -1, 4, 5, 1 << 32, math.MaxInt - 1, math.MaxInt} {
			refuseOverlap(t, l, near, drift)
			refuseOverlap(t, l, 0, drift)
			refuseOverlap(t, l, maxClock, drift)
		}
	})
	for _, count := range []int{41, 42, 80, 296, 1000, 1 << 16} {
		refuseOverlap(t, make([]impl.Lease, count), 0, 0)
		refuseOverlap(t, slices.Repeat([]impl.Lease{leaseOf(1, 10, 1)}, count), 0, 0)
		refuseOverlap(t, append(slices.Repeat([]impl.Lease{leaseOf(1, 10, 1)}, count-1), leaseOf(2, 18, 2)), 0, 0)
		refuseOverlap(t, append([]impl.Lease{leaseOf(2, 18, 2)}, slices.Repeat([]impl.Lease{leaseOf(1, 10, 1)}, count-1)...), 0, 0)
	}
}

// An invalid lease at the first, the middle and the last place, also behind two that overlap.
func TestMayOverlapRefusesOtherLeases(t *testing.T) {
	overlapping := []impl.Lease{leaseOf(1, 10, 1), leaseOf(2, 18, 2)}
	apart := []impl.Lease{leaseOf(1, 10, 1), leaseOf(1, 18, 2), leaseOf(0, 0, 3)}
	for _, bad := range badLeases() {
		for _, l := range [][]impl.Lease{nil, overlapping, apart, slices.Repeat(overlapping, 19)} {
			for _, at := range []int{0, len(l) / 2, len(l)} {
				with := slices.Insert(slices.Clone(l), at, bad)
				refuseOverlap(t, with, 0, 0)
				refuseOverlap(t, with, 9, 3)
				refuseOverlap(t, with, maxClock, 1)
			}
		}
	}
}

// stepsWithTail returns the steps with room behind them, and with what lies there, which is enabled.
func stepsWithTail(s []impl.LeaseStep) ([]impl.LeaseStep, []impl.LeaseStep) {
	now := 0
	if len(s) > 0 {
		now = s[len(s)-1].Now
	}
	whole := append(slices.Clone(s), askOf(1, now, 5), endOf(1, now), askOf(2, now+20, 5))
	return whole[:len(s)], whole
}

func leasesWithTail(l []impl.Lease) ([]impl.Lease, []impl.Lease) {
	whole := append(slices.Clone(l), leaseOf(7, 9999, 1), leaseOf(8, 10000, 1), leaseOf(-1, -1, -1))
	return whole[:len(l)], whole
}

// Promise 19: the steps are neither changed nor read behind their length.
func TestLeaseStepsAreLeftAlone(t *testing.T) {
	check := func(s []impl.LeaseStep) {
		t.Helper()
		list, whole := stepsWithTail(s)
		before := slices.Clone(whole)
		l, all, ok := impl.PlayLease(list)
		if !slices.Equal(whole, before) {
			t.Fatal("changed", s, whole)
		}
		clean, cleanAll, cleanOk := impl.PlayLease(slices.Clip(slices.Clone(s)))
		if l != clean || !slices.Equal(all, cleanAll) || ok != cleanOk {
			t.Fatal("read behind the length", s, l, all, ok)
		}
	}
	eachLeaseExecution(check)
	for count := 2; count <= 44; count++ {
		s := mixedLeaseSteps(count, uint64(count), 2, 8, [3]int{3, 1, 1})
		check(s)
		s[count-1].Now = s[0].Now - 1
		check(s)
		check(make([]impl.LeaseStep, count))
	}
}

// Promise 19: the leases are neither changed nor read behind their length.
func TestLeasesAreLeftAlone(t *testing.T) {
	check := func(l []impl.Lease, now int, drift int) {
		t.Helper()
		list, whole := leasesWithTail(l)
		before := slices.Clone(whole)
		may, ok := impl.MayOverlap(list, now, drift)
		if !slices.Equal(whole, before) {
			t.Fatal("changed", l, now, drift, whole)
		}
		clean, cleanOk := impl.MayOverlap(slices.Clip(slices.Clone(l)), now, drift)
		if may != clean || ok != cleanOk {
			t.Fatal("read behind the length", l, now, drift, may, ok)
		}
	}
	eachLeaseList(func(l []impl.Lease, near int) {
		for drift := -1; drift <= maxDrift+1; drift++ {
			check(l, near, drift)
			check(l, 0, drift)
			check(l, maxClock+1, drift)
		}
		check(append(slices.Clone(l), leaseOf(0, 1, 0)), near, 0)
	})
	check(make([]impl.Lease, 41), 0, 0)
}

// What is returned may be overwritten without effect on the argument or on other results; and so may the argument.
func TestLeaseExecutionsShareNoMemory(t *testing.T) {
	eachLeaseExecution(func(s []impl.LeaseStep) {
		list, whole := stepsWithTail(s)
		before := slices.Clone(whole)
		_, first, _ := impl.PlayLease(list)
		l, second, _ := impl.PlayLease(list)
		room := first[:cap(first)]
		for k := range room {
			room[k] = leaseOf(-7, -7, -7)
		}
		if !slices.Equal(whole, before) {
			t.Fatal("shared with the argument", s, whole)
		}
		for k := range whole {
			whole[k] = impl.LeaseStep{Kind: -7, Who: -7, Now: -7, Long: -7}
		}
		if want, wantAll := playLeaseIn(s); l != want || !slices.Equal(second, wantAll) {
			t.Fatal("shared", s, l, second)
		}
		checkPlayLease(t, s)
	})
}

// A call's result is the same before and after other calls.
func TestLeaseCallsKeepNothing(t *testing.T) {
	_, all, _ := impl.PlayLease(exampleSteps)
	for range 3 {
		checkOverlap(t, all, 0, 0, true)
		refuseOverlap(t, append(slices.Clone(all), leaseOf(10, 1, 1)), 0, 0)
		refusePlayLease(t, make([]impl.LeaseStep, 41))
		refuseLeaseStep(t, leaseOf(1, 10, 1), askOf(2, 5, 5))
		checkPlayLease(t, exampleSteps)
		checkHeld(t, all[2], 18, 0)
		checkBelieves(t, all[2], 14, true)
	}
}
