package topo

import (
	"math"
	"slices"
	"testing"

	"cardamom/api"
)

// TestLong: lists of many thousands of edges are told to be none that may be, of each size, whatever is in them.
func TestLong(t *testing.T) {
	const many = 200000
	rising := func() list {
		var l list
		for i := range many {
			l = append(l, [2]int{1 + i, 2 + i})
		}
		return l
	}
	lists := []list{
		slices.Repeat(list{{1, 2}}, many), slices.Repeat(full(5), many/10), rising(), make(list, many),
		slices.Repeat(list{{math.MinInt, math.MaxInt}}, many), slices.Repeat(list{{math.MaxInt, math.MinInt}}, many),
		append(full(5), rising()...), append(rising(), full(5)...),
	}
	for _, l := range lists {
		for _, size := range []int{math.MinInt, -1, 0, 1, 2, 3, 4, 5, 6, many, many + 1, math.MaxInt} {
			if May(size, l) || Wide(size, l) != 0 {
				t.Errorf("%d of %d edges: may be", size, len(l))
			}
			for _, from := range []int{math.MinInt, 0, 1, size, many, math.MaxInt} {
				if Steps(size, l, from) != nil {
					t.Errorf("%d of %d edges: Steps from %d", size, len(l), from)
				}
			}
		}
	}
	last := append(slices.Repeat(list{{7, 7}}, many), [2]int{4, 3})
	if !Beside(last, 3, 4) || !Beside(last, 4, 3) || !Beside(last, 7, 7) || Beside(last, 3, 3) || Beside(last, 4, 7) {
		t.Error("Beside, of many edges")
	}
}

// chance tells numbers below n that look like chance and are the same each time.
type chance uint64

func (c *chance) below(n int) int {
	*c = *c*6364136223846793005 + 1442695040888963407
	return int(uint64(*c) >> 33 % uint64(n))
}

// TestAnyNumbers: of edges of any numbers, those at either end among them, what is told is as the promise's words say.
func TestAnyNumbers(t *testing.T) {
	c := chance(24)
	all := numbers()
	may := 0
	for range 200000 {
		var l list
		size, from := 1+c.below(api.MaxRepl), all[c.below(len(all))]
		for range c.below(8) {
			e := [2]int{1 + c.below(size), 1 + c.below(size)}
			if c.below(30) == 0 {
				e[c.below(2)] = all[c.below(len(all))]
			}
			l = append(l, e)
		}
		if c.below(3) > 0 {
			for i, e := range l {
				l[i] = [2]int{min(e[0], e[1]), max(e[0], e[1])}
			}
			slices.SortFunc(l, func(a, b [2]int) int { return slices.Compare(a[:], b[:]) })
		}
		if c.below(2) > 0 {
			l = slices.Compact(l)
		}
		want := asWritten(size, l)
		if May(size, l) != want {
			t.Fatalf("%d, %v: %v", size, l, !want)
		}
		var steps []int
		if want && 1 <= from && from <= size {
			may++
			steps = byWays(size, l)[from-1]
		}
		if got := Steps(size, l, from); !slices.Equal(got, steps) || (got == nil) != (steps == nil) {
			t.Fatalf("%d, %v from %d: %v, want %v", size, l, from, got, steps)
		}
	}
	if may < 1000 {
		t.Errorf("only %d that may be", may)
	}
}
