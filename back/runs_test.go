package back

import (
	"fmt"
	"slices"
	"sync"
	"testing"

	"cardamom/api"
)

// chance tells numbers below n that look like chance and are the same each time.
type chance uint64

func (c *chance) below(n int) int {
	*c = *c*6364136223846793005 + 1442695040888963407
	return int(uint64(*c) >> 33 % uint64(n))
}

// waits is how long it waits behind each yes: behind the sixth on, always as long.
func waits(yes int) int {
	if l := []int{1, 2, 4, 8, 16, 32}; yes < len(l) {
		return l[yes]
	}
	return 64
}

// run is what the promise comes to of a whole run: when it said yes last (at first: was started), and how often.
type run struct{ last, yes int }

func (r run) due() int { return r.last + waits(r.yes) }

func (r run) back() api.Back { return on(r.due(), waits(r.yes+1)) }

// look looks at b and at the run at the same time, and asks that they say the same.
func (r *run) look(t *testing.T, b api.Back, now int) api.Back {
	t.Helper()
	yes := now >= r.due()
	if yes {
		*r = run{now, r.yes + 1}
	}
	got, said := Tick(b, now)
	want(t, fmt.Sprintf("%+v at %d", b, now), got, said, r.back(), yes)
	return got
}

// beginnings is times to start at: around 0, far above it, far below it.
func beginnings() []int {
	l := fromTo(-150, 150)
	for _, far := range []int{1000, 65536, 1 << 31, 1 << 40, 1 << 62} {
		l = append(l, fromTo(far-5, far+5)...)
		l = append(l, fromTo(-far-5, -far+5)...)
	}
	return l
}

// TestEachTime: from many beginnings, looked at at each time: it says yes one behind the beginning, and then waits twice as long each, at most MaxWait.
func TestEachTime(t *testing.T) {
	for _, from := range beginnings() {
		b, r := Start(from), run{last: from}
		for now := from - 3; now <= from+300; now++ {
			b = r.look(t, b, now)
		}
		_, l := yeses(Start(from), fromTo(from, from+700))
		for i, now := range l {
			l[i] = now - from
		}
		if wanted := []int{1, 3, 7, 15, 31, 63, 127, 191, 255, 319, 383, 447, 511, 575, 639}; !slices.Equal(l, wanted) {
			t.Fatalf("from %d: yes behind %v, want %v", from, l, wanted)
		}
	}
}

// TestLateByChance: looked at late by chance, now and then at the same time twice, or at an earlier one.
func TestLateByChance(t *testing.T) {
	c := chance(22)
	for i := range 600 {
		from := c.below(4000) - 2000
		b, r, now := Start(from), run{last: from}, from
		for range 250 {
			switch c.below(12) {
			case 0: // The same time.
			case 1:
				now -= c.below(80)
			case 2:
				now = b.Due - 1 + c.below(3)
			case 3:
				now += c.below(400)
			default:
				now += c.below(2 + i%9)
			}
			b = r.look(t, b, now)
		}
	}
}

// TestGapsOfRuns: looked at late by chance, between two times that it says yes is at least so long; and at most so much later as it is looked at.
func TestGapsOfRuns(t *testing.T) {
	c := chance(64)
	for range 300 {
		from, slow := c.below(1000)-500, 1+c.below(20)
		var times []int
		for now := from; now < from+1500; now += 1 + c.below(slow) {
			times = append(times, now)
		}
		_, l := yeses(Start(from), times)
		last := from
		for i, now := range l {
			if gap := now - last; gap < waits(i) || gap >= waits(i)+slow {
				t.Fatalf("from %d, at most %d late: yes at %v: %d behind yes %d", from, slow, l, gap, i)
			}
			last = now
		}
		if len(l) < 15 {
			t.Fatalf("from %d, at most %d late: yes at %v alone", from, slow, l)
		}
	}
}

// TestStopByChance: runs that are stopped and started again by chance: each is as if it were the first.
func TestStopByChance(t *testing.T) {
	c := chance(7)
	for range 200 {
		var b api.Back
		var r run
		now, going := 0, false
		for range 200 {
			now += c.below(6)
			switch c.below(20) {
			case 0:
				b, going = Stop(b), false
			case 1:
				b, r, going = Start(now), run{last: now}, true
			}
			if going {
				b = r.look(t, b, now)
			} else {
				notDue(t, b, now)
			}
		}
	}
}

// TestSameEachTime: the same states and times tell the same, asked side by side too.
func TestSameEachTime(t *testing.T) {
	type answer struct {
		start, tick, stop api.Back
		yes               bool
	}
	ask := func(b api.Back, now int) answer {
		next, yes := Tick(b, now)
		return answer{Start(now), next, Stop(b), yes}
	}
	var all []answer
	each := func(do func(i int, a answer)) {
		i := 0
		for _, b := range someStates() {
			for _, now := range ends() {
				do(i, ask(b, now))
				i++
			}
		}
	}
	each(func(_ int, a answer) { all = append(all, a) })
	var group sync.WaitGroup
	for range 8 {
		group.Go(func() {
			each(func(i int, a answer) {
				if a != all[i] {
					t.Errorf("%+v, %+v at first", a, all[i])
				}
			})
		})
	}
	group.Wait()
}
