package topo

import (
	"math/bits"
	"slices"
	"testing"

	"cardamom/api"
)

// some is those of all the edges of so many replicas of which the bits are set.
func some(size, set int) list {
	var l list
	for i, e := range full(size) {
		if set>>i&1 == 1 {
			l = append(l, e)
		}
	}
	return l
}

// shortest is over how few edges b is from a, by each way on which none is passed twice; -1, if there is no way.
func shortest(edges list, a, b int, passed []int) int {
	if a == b {
		return 0
	}
	best := -1
	for _, e := range edges {
		for _, way := range [][2]int{{e[0], e[1]}, {e[1], e[0]}} {
			if way[0] != a || slices.Contains(passed, way[1]) {
				continue
			}
			n := shortest(edges, way[1], b, append(slices.Clone(passed), a))
			if n >= 0 && (best < 0 || n+1 < best) {
				best = n + 1
			}
		}
	}
	return best
}

// byWays is Steps from each, by going each way; none, if some are not joined.
func byWays(size int, edges list) [][]int {
	var all [][]int
	for from := 1; from <= size; from++ {
		var l []int
		for to := 1; to <= size; to++ {
			n := shortest(edges, from, to, nil)
			if n < 0 {
				return nil
			}
			l = append(l, n)
		}
		all = append(all, l)
	}
	return all
}

// eachSet calls do with each set of edges that is told as edges are, of each size.
func eachSet(do func(size, set int, edges list)) {
	for size := 1; size <= api.MaxRepl; size++ {
		for set := range 1 << len(full(size)) {
			do(size, set, some(size, set))
		}
	}
}

// TestAll: of each set of edges, May tells whether each is joined to each, Steps what going each way tells, Wide the greatest of it, Beside which edges there are.
func TestAll(t *testing.T) {
	joined := 0
	eachSet(func(size, set int, edges list) {
		want := byWays(size, edges)
		if want == nil {
			wantNone(t, "not joined", size, edges)
			return
		}
		joined++
		wide := 0
		for _, l := range want {
			wide = max(wide, slices.Max(l))
		}
		if wide >= size {
			t.Errorf("%d, %v: %d wide", size, edges, wide)
		}
		wantSteps(t, size, edges, wide, want...)
	})
	// So many graphs of 1 to 5 that are told apart are joined: 1, 1, 4, 38, 728.
	if joined != 1+1+4+38+728 {
		t.Errorf("%d are joined", joined)
	}
}

// TestAllBeside: of each set of edges, Beside tells which there are, and Steps is 1 of just those.
func TestAllBeside(t *testing.T) {
	eachSet(func(size, set int, edges list) {
		may := May(size, edges)
		for a := -1; a <= size+2; a++ {
			for b := -1; b <= size+2; b++ {
				want := slices.Contains(edges, [2]int{min(a, b), max(a, b)})
				if got := Beside(edges, a, b); got != want {
					t.Fatalf("%v: %d beside %d: %v", edges, a, b, got)
				}
				if in := 1 <= a && a <= size && 1 <= b && b <= size; may && in && (Steps(size, edges, a)[b-1] == 1) != want {
					t.Fatalf("%v: %v from %d: %v", edges, b, a, Steps(size, edges, a))
				}
			}
		}
	})
}

// TestFar: it is as far there as back, no further than over any third one, nought just of itself, and no further with one edge more.
func TestFar(t *testing.T) {
	eachSet(func(size, set int, edges list) {
		if !May(size, edges) {
			return
		}
		far := func(edges list, a, b int) int { return Steps(size, edges, a+1)[b] }
		for a := range size {
			for b := range size {
				if n := far(edges, a, b); n != far(edges, b, a) || (n == 0) != (a == b) || n < 0 || n >= size || n > Wide(size, edges) {
					t.Fatalf("%d, %v: from %d to %d: %d, back %d", size, edges, a+1, b+1, n, far(edges, b, a))
				}
				for c := range size {
					if far(edges, a, b) > far(edges, a, c)+far(edges, c, b) {
						t.Fatalf("%d, %v: over %d it is less far from %d to %d", size, edges, c+1, a+1, b+1)
					}
				}
			}
		}
		for i := range full(size) {
			more := some(size, set|1<<i)
			for a := range size {
				for b := range size {
					if far(more, a, b) > far(edges, a, b) {
						t.Fatalf("%d: with %v it is further from %d to %d than with %v", size, more, a+1, b+1, edges)
					}
				}
			}
			if Wide(size, more) > Wide(size, edges) {
				t.Fatalf("%d: %v are wider than %v", size, more, edges)
			}
		}
	})
}

// TestAsFewAsJoin: as few edges as join each to each are one fewer than there are replicas; without any one of them they may not be, nor may any that are fewer.
func TestAsFewAsJoin(t *testing.T) {
	few := [api.MaxRepl + 1]int{}
	eachSet(func(size, set int, edges list) {
		n := bits.OnesCount(uint(set))
		if n < size-1 {
			wantNone(t, "too few", size, edges)
		}
		if n != size-1 || !May(size, edges) {
			return
		}
		few[size]++
		for i := range edges {
			wantNone(t, "one fewer", size, slices.Delete(slices.Clone(edges), i, i+1))
		}
	})
	// So many trees there are of 1 to 5 that are told apart.
	if few != [...]int{0, 1, 1, 3, 16, 125} {
		t.Errorf("as few as join: %v", few)
	}
}

// TestAlone: all edges but those of one replica, each in turn, do not join it, nor do all but those between two parts.
func TestAlone(t *testing.T) {
	for size := 2; size <= api.MaxRepl; size++ {
		for part := 1; part < 1<<size-1; part++ {
			var edges list
			for _, e := range full(size) {
				if part>>(e[0]-1)&1 == part>>(e[1]-1)&1 {
					edges = append(edges, e)
				}
			}
			wantNone(t, "two parts", size, edges)
		}
	}
}
