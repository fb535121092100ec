package topo

import (
	"slices"
	"testing"

	"cardamom/api"
)

// joined is of each size each set of edges that may be.
func joined(do func(size int, edges list)) {
	eachSet(func(size, set int, edges list) {
		if May(size, edges) {
			do(size, edges)
		}
	})
}

// with is edges with e ahead of number i.
func with(edges list, i int, e [2]int) list { return slices.Insert(slices.Clone(edges), i, e) }

// TestGreaterFirst: an edge that has its greater first may not be, each in turn, nor one more of it.
func TestGreaterFirst(t *testing.T) {
	joined(func(size int, edges list) {
		for i, e := range edges {
			turned := slices.Clone(edges)
			turned[i] = [2]int{e[1], e[0]}
			wantNone(t, "the greater first", size, turned)
			slices.SortFunc(turned, func(a, b [2]int) int { return slices.Compare(a[:], b[:]) })
			wantNone(t, "the greater first, sorted", size, turned)
			for j := range len(edges) + 1 {
				wantNone(t, "both ways", size, with(edges, j, [2]int{e[1], e[0]}))
			}
		}
	})
}

// TestTwice: an edge that is there twice may not be, wherever.
func TestTwice(t *testing.T) {
	joined(func(size int, edges list) {
		for _, e := range edges {
			for j := range len(edges) + 1 {
				wantNone(t, "twice", size, with(edges, j, e))
			}
		}
	})
}

// TestItself: an edge of one with itself may not be, wherever.
func TestItself(t *testing.T) {
	joined(func(size int, edges list) {
		for a := 1; a <= size; a++ {
			for j := range len(edges) + 1 {
				wantNone(t, "itself", size, with(edges, j, [2]int{a, a}))
			}
		}
	})
}

// TestOfOthers: an edge of one that is not of 1 to size may not be: nought, below, above, at either end, the first of it or the second, wherever.
func TestOfOthers(t *testing.T) {
	for size := 1; size <= api.MaxRepl; size++ {
		for _, edges := range []list{row(size), full(size), star(size, 1), star(size, size)} {
			for _, x := range numbers() {
				if 1 <= x && x <= size {
					continue
				}
				for a := 1; a <= size; a++ {
					for j := range len(edges) + 1 {
						wantNone(t, "of others", size, with(edges, j, [2]int{a, x}))
						wantNone(t, "of others", size, with(edges, j, [2]int{x, a}))
						wantNone(t, "of others", size, with(edges, j, [2]int{x, x}))
						wantNone(t, "of others", size, with(edges, j, [2]int{x, x + 1}))
					}
				}
			}
		}
	}
}

// TestNotRising: edges that may be, in another order, may not be: each two of them in each other's place, and each of them in each place.
func TestNotRising(t *testing.T) {
	joined(func(size int, edges list) {
		for i := range edges {
			for j := range i {
				swapped := slices.Clone(edges)
				swapped[i], swapped[j] = swapped[j], swapped[i]
				wantNone(t, "swapped", size, swapped)
				moved := with(slices.Delete(slices.Clone(edges), i, i+1), j, edges[i])
				wantNone(t, "moved ahead", size, moved)
			}
		}
	})
	// The second falls where the first are alike; the first falls where the second rises.
	wantNone(t, "second", 3, list{{1, 3}, {1, 2}})
	wantNone(t, "first", 3, list{{2, 3}, {1, 2}})
	wantNone(t, "first, while the second rises", 4, list{{1, 2}, {2, 3}, {1, 4}})
	wantSteps(t, 4, list{{1, 4}, {2, 3}, {2, 4}}, 3)
}

// TestAsWritten: of all lists of up to so many edges of so few numbers, only those that the promise's words let be may be.
func TestAsWritten(t *testing.T) {
	few := list{{0, 1}, {1, 0}, {1, 1}, {1, 2}, {1, 3}, {1, 4}, {2, 1}, {2, 3}, {2, 4}, {3, 2}, {3, 3}, {3, 4}, {4, 5}}
	var more func(l list)
	more = func(l list) {
		for size := 0; size <= 5; size++ {
			if got, want := May(size, l), asWritten(size, l); got != want {
				t.Fatalf("%d, %v: %v", size, l, got)
			}
		}
		if len(l) < 4 {
			for _, e := range few {
				more(append(slices.Clone(l), e))
			}
		}
	}
	more(nil)
}

// asWritten is May, by the promise's words one by one.
func asWritten(size int, edges list) bool {
	if size < 1 || size > 5 {
		return false
	}
	for i, e := range edges {
		if e[0] >= e[1] || e[0] < 1 || e[1] > size {
			return false
		}
		if i == 0 {
			continue
		}
		if d := edges[i-1]; d[0]*10+d[1] >= e[0]*10+e[1] {
			return false
		}
	}
	return byWays(size, edges) != nil
}
