package back

import (
	"fmt"
	"math"
	"math/big"
	"testing"

	"cardamom/api"
)

// ends is numbers at either end of what there is, at those of which twice as much wraps round, and small ones.
func ends() []int {
	var l []int
	for _, first := range []int{math.MinInt, math.MinInt/2 - 1, math.MinInt32 - 1, -2, 31, 63, math.MaxInt32 - 1, math.MaxInt/2 - 1, math.MaxInt - 3} {
		for i := range 4 {
			l = append(l, first+i)
		}
	}
	return append(l, math.MinInt+64, -1<<61, -1000, -64, 16, 100, 1000, 1<<61, math.MaxInt-64, math.MaxInt-32)
}

// someStates is each of few Dues and Gaps, On and not.
func someStates() []api.Back {
	var l []api.Back
	for _, due := range ends() {
		for _, gap := range ends() {
			l = append(l, on(due, gap), api.Back{Due: due, Gap: gap})
		}
	}
	return l
}

// sum is a + b, in numbers that have no end.
func sum(a, b int) *big.Int { return new(big.Int).Add(big.NewInt(int64(a)), big.NewInt(int64(b))) }

// is tells whether got is n, or n is beyond what an int can be.
func is(got int, n *big.Int) bool { return !n.IsInt64() || n.Int64() == int64(got) }

// atMost is n, or most if that is less.
func atMost(n *big.Int, most int64) *big.Int {
	if n.Cmp(big.NewInt(most)) > 0 {
		return big.NewInt(most)
	}
	return n
}

// TestOddStates: no state and no time makes a call fail; each is answered by the promise's words in numbers that have no end, where the answer is a number that can be; and Gap is never above MaxWait.
func TestOddStates(t *testing.T) {
	for _, b := range someStates() {
		want(t, fmt.Sprintf("Stop %+v", b), Stop(b), true, api.Back{}, true)
		for _, now := range ends() {
			got, yes := Tick(b, now)
			if !b.On || now < b.Due {
				want(t, fmt.Sprintf("%+v at %d", b, now), got, yes, b, false)
				continue
			}
			if !yes || !got.On || !is(got.Due, sum(now, b.Gap)) || !is(got.Gap, atMost(sum(b.Gap, b.Gap), 64)) || got.Gap > 64 {
				t.Fatalf("%+v at %d: %+v %v", b, now, got, yes)
			}
		}
	}
	for _, now := range ends() {
		if b := Start(now); !b.On || b.Gap != 2 || !is(b.Due, sum(now, 1)) {
			t.Fatalf("Start at %d: %+v", now, b)
		}
	}
}

// TestEachSmall: each small Due, Gap and time there is, On and not.
func TestEachSmall(t *testing.T) {
	for at := -12; at <= 12; at++ {
		for gap := -70; gap <= 140; gap++ {
			next := gap + gap
			if next > 64 {
				next = 64
			}
			for now := -14; now <= 14; now++ {
				if now < at {
					notDue(t, on(at, gap), now)
				} else {
					due(t, on(at, gap), now, on(now+gap, next))
				}
				notDue(t, api.Back{Due: at, Gap: gap}, now)
			}
		}
	}
}

// TestManyTicks: however often it is looked at, and whatever Gap it had, Gap is at most MaxWait.
func TestManyTicks(t *testing.T) {
	for _, b := range someStates() {
		for _, now := range []int{math.MinInt, -1, 0, 1, 64, math.MaxInt} {
			next := b
			for range 70 {
				got, yes := Tick(next, now)
				if yes && got.Gap > 64 || !yes && got != next || got.On != b.On {
					t.Fatalf("%+v at %d: %+v, then %+v %v", b, now, next, got, yes)
				}
				next = got
			}
		}
	}
}

// TestOddExamples: some of them written out.
func TestOddExamples(t *testing.T) {
	due(t, on(math.MinInt, math.MaxInt), math.MinInt, on(-1, 64))
	due(t, on(math.MinInt, math.MaxInt), 0, on(math.MaxInt, 64))
	due(t, on(0, math.MinInt/2), 0, on(math.MinInt/2, math.MinInt))
	due(t, on(5, math.MaxInt/2+1), 5, on(math.MaxInt/2+6, 64))
	due(t, on(math.MaxInt, -1), math.MaxInt, on(math.MaxInt-1, -2))
	due(t, on(math.MaxInt-64, 64), math.MaxInt-64, on(math.MaxInt, 64))
	notDue(t, on(math.MaxInt, 64), math.MaxInt-1, 0, -1, math.MinInt)
	notDue(t, on(math.MinInt+1, 2), math.MinInt)
	due(t, on(7, 0), 7, on(7, 0))
	due(t, on(7, -3), 7, on(4, -6))
	want(t, "one ahead of the last time", Start(math.MaxInt-1), true, on(math.MaxInt, 2), true)
	want(t, "the first time", Start(math.MinInt), true, on(math.MinInt+1, 2), true)
}
