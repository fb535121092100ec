package back

import (
	"fmt"
	"slices"
	"testing"

	"cardamom/api"
)

func want(t *testing.T, what string, got api.Back, yes bool, wanted api.Back, wantedYes bool) {
	t.Helper()
	if got != wanted || yes != wantedYes {
		t.Fatalf("%s: %+v %v, want %+v %v", what, got, yes, wanted, wantedYes)
	}
}

// on is one that is due at due and waits for gap then.
func on(due, gap int) api.Back { return api.Back{On: true, Due: due, Gap: gap} }

// due asks for a yes at now, and for what it leaves.
func due(t *testing.T, b api.Back, now int, wanted api.Back) api.Back {
	t.Helper()
	got, yes := Tick(b, now)
	want(t, fmt.Sprintf("%+v at %d", b, now), got, yes, wanted, true)
	return got
}

// notDue asks for a no at each of these times, and that b is as it was.
func notDue(t *testing.T, b api.Back, times ...int) {
	t.Helper()
	for _, now := range times {
		got, yes := Tick(b, now)
		want(t, fmt.Sprintf("%+v at %d", b, now), got, yes, b, false)
	}
}

// yeses tells at which of these times b says yes, and what it is in the end.
func yeses(b api.Back, times []int) (api.Back, []int) {
	var l []int
	for _, now := range times {
		next, yes := Tick(b, now)
		if yes {
			l = append(l, now)
		}
		b = next
	}
	return b, l
}

// fromTo is each time from one to another.
func fromTo(from, to int) []int {
	var l []int
	for now := from; now <= to; now++ {
		l = append(l, now)
	}
	return l
}

// TestExample: started at 0, and looked at at each time.
func TestExample(t *testing.T) {
	b := Start(0)
	want(t, "Start at 0", b, true, on(1, 2), true)
	last, l := yeses(b, fromTo(0, 400))
	if wanted := []int{1, 3, 7, 15, 31, 63, 127, 191, 255, 319, 383}; !slices.Equal(l, wanted) {
		t.Fatalf("yes at %v, want %v", l, wanted)
	}
	want(t, "the end", last, true, on(447, 64), true)
}

// TestEachStep: the same, each state written out.
func TestEachStep(t *testing.T) {
	b := Start(0)
	notDue(t, b, -1000, -1, 0)
	b = due(t, b, 1, on(3, 4))
	notDue(t, b, 0, 1, 2)
	b = due(t, b, 3, on(7, 8))
	notDue(t, b, 3, 4, 5, 6)
	b = due(t, b, 7, on(15, 16))
	b = due(t, b, 15, on(31, 32))
	b = due(t, b, 31, on(63, 64))
	b = due(t, b, 63, on(127, 64))
	notDue(t, b, 63, 64, 95, 126)
	b = due(t, b, 127, on(191, 64))
	notDue(t, b, 127, 128, 190)
	due(t, b, 191, on(255, 64))
}

// TestStart: at any time, 0 and those below it too.
func TestStart(t *testing.T) {
	for _, x := range []struct {
		now  int
		want api.Back
	}{{0, on(1, 2)}, {1, on(2, 2)}, {100, on(101, 2)}, {1000000, on(1000001, 2)}, {-1, on(0, 2)}, {-2, on(-1, 2)}, {-3, on(-2, 2)}, {-1000, on(-999, 2)}} {
		b := Start(x.now)
		want(t, fmt.Sprintf("Start at %d", x.now), b, true, x.want, true)
		notDue(t, b, x.now-1000, x.now-1, x.now)
		due(t, b, x.now+1, on(x.now+3, 4))
		due(t, b, x.now+2, on(x.now+4, 4))
	}
}

// TestBesideDue: one ahead of Due, at it, one behind it, long behind it; with a Due of 0, and below it.
func TestBesideDue(t *testing.T) {
	for _, at := range []int{-1000, -9, -8, -1, 0, 1, 7, 8, 9, 1000, 1000000} {
		b := on(at, 8)
		notDue(t, b, at-1, at-2, at-8, at-9, at-16, at-100000)
		due(t, b, at, on(at+8, 16))
		due(t, b, at+1, on(at+9, 16))
		due(t, b, at+7, on(at+15, 16))
		due(t, b, at+8, on(at+16, 16))
		due(t, b, at+9, on(at+17, 16))
		due(t, b, at+100000, on(at+100008, 16))
	}
}

// TestLate: Due is told from the time that it is looked at, however late: it is not made up for.
func TestLate(t *testing.T) {
	b := Start(0)
	b = due(t, b, 5, on(7, 4))
	notDue(t, b, 5, 6)
	b = due(t, b, 100, on(104, 8))
	notDue(t, b, 100, 101, 103)
	b = due(t, b, 104, on(112, 16))
	b = due(t, b, 113, on(129, 32))
	notDue(t, b, 128)
	b = due(t, b, 1000, on(1032, 64))
	notDue(t, b, 1000, 1001, 1031)
	b = due(t, b, 1032, on(1096, 64))
	b = due(t, b, 1097, on(1161, 64))
	due(t, b, 5000000, on(5000064, 64))
}

// TestSameTimeTwice: what said yes says no at the same time; what said no says no again.
func TestSameTimeTwice(t *testing.T) {
	b := Start(20)
	for _, now := range []int{21, 23, 30, 50, 51, 82, 150, 151, 214, 400} {
		next, _ := Tick(b, now)
		notDue(t, next, now, now)
		b = next
	}
}

// TestEarlierTime: a time ahead of one that it was looked at at before is one like any other.
func TestEarlierTime(t *testing.T) {
	b := due(t, Start(50), 60, on(62, 4))
	notDue(t, b, 59, 51, 50, 49, 0, -60)
	b = due(t, b, 62, on(66, 8))
	notDue(t, b, 65, 62, 61, 60, 51, 0)
	b = due(t, b, 90, on(98, 16))
	notDue(t, b, 97, 66, 62, 90)
	due(t, b, 98, on(114, 32))
}

// TestGap: twice as much, at most MaxWait: below it, at it, above it.
func TestGap(t *testing.T) {
	for _, x := range []struct{ gap, next int }{
		{1, 2}, {2, 4}, {3, 6}, {4, 8}, {8, 16}, {15, 30}, {16, 32}, {17, 34},
		{30, 60}, {31, 62}, {32, 64}, {33, 64}, {34, 64}, {48, 64},
		{63, 64}, {64, 64}, {65, 64}, {127, 64}, {128, 64}, {129, 64}, {1000, 64}, {1 << 30, 64},
		{0, 0}, {-1, -2}, {-31, -62}, {-32, -64}, {-64, -128}, {-1000, -2000},
	} {
		b := on(10, x.gap)
		due(t, b, 10, on(10+x.gap, x.next))
		due(t, b, 11, on(11+x.gap, x.next))
		due(t, b, 500, on(500+x.gap, x.next))
		notDue(t, b, 9, 0, -10, -500)
	}
}

// TestOff: what is not On says no at any time, whatever its Due and Gap, and is as it was.
func TestOff(t *testing.T) {
	for _, at := range []int{-1000, -3, -1, 0, 1, 2, 3, 50, 1000} {
		for _, gap := range []int{-64, -1, 0, 1, 2, 31, 32, 33, 64, 65, 1000} {
			b := api.Back{Due: at, Gap: gap}
			notDue(t, b, at-1000, at-64, at-2, at-1, at, at+1, at+2, at+64, at+1000, 0, gap)
		}
	}
}

// TestStop: nought, whatever was stopped: one that waits, one that is due, one that was stopped, one that was never made.
func TestStop(t *testing.T) {
	waits := Start(7)
	later, _ := Tick(waits, 8)
	for _, b := range []api.Back{waits, later, {}, on(0, 0), on(5, 64), on(5, 1000), on(-5, -7), {On: true}, {Due: 5}, {Gap: 9}, {Due: -5, Gap: -9}} {
		stopped := Stop(b)
		want(t, fmt.Sprintf("Stop %+v", b), stopped, true, api.Back{}, true)
		want(t, "Stop twice", Stop(stopped), true, api.Back{}, true)
		notDue(t, stopped, -1000, -1, 0, 1, 2, b.Due-1, b.Due, b.Due+1, 1000, 1000000)
	}
}

// TestStoppedStays: what is stopped in the midst of a run says no at each time from then on, and what is started then is as new.
func TestStoppedStays(t *testing.T) {
	for end := range 140 {
		b, _ := yeses(Start(0), fromTo(0, end))
		b, l := yeses(Stop(b), fromTo(-10, 500))
		if b != (api.Back{}) || l != nil {
			t.Fatalf("stopped at %d: %+v, yes at %v", end, b, l)
		}
		due(t, Start(end), end+1, on(end+3, 4))
	}
}
