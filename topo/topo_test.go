package topo

import (
	"fmt"
	"math"
	"slices"
	"testing"

	"cardamom/api"
)

// list is edges.
type list = [][2]int

// row, ring, star and full are what they are called, of so many; the star is around one of them.
func row(size int) list {
	var l list
	for a := 1; a < size; a++ {
		l = append(l, [2]int{a, a + 1})
	}
	return l
}

func ring(size int) list {
	return slices.Insert(row(size), 1, [2]int{1, size})
}

func star(size, at int) list {
	var l list
	for a := 1; a <= size; a++ {
		if a != at {
			l = append(l, [2]int{min(a, at), max(a, at)})
		}
	}
	return l
}

func full(size int) list {
	var l list
	for a := 1; a <= size; a++ {
		for b := a + 1; b <= size; b++ {
			l = append(l, [2]int{a, b})
		}
	}
	return l
}

// wantSteps checks what is told of edges that may be.
func wantSteps(t *testing.T, size int, edges list, wide int, steps ...[]int) {
	t.Helper()
	if !May(size, edges) {
		t.Errorf("%d, %v: may not be", size, edges)
	}
	for i, want := range steps {
		if got := Steps(size, edges, i+1); !slices.Equal(got, want) {
			t.Errorf("%d, %v: Steps from %d: %v, want %v", size, edges, i+1, got, want)
		}
	}
	if got := Wide(size, edges); got != wide {
		t.Errorf("%d, %v: Wide %d, want %d", size, edges, got, wide)
	}
}

// wantNone checks what is told of edges that may not be.
func wantNone(t *testing.T, why string, size int, edges list) {
	t.Helper()
	if May(size, edges) {
		t.Errorf("%s: %d, %v may be", why, size, edges)
	}
	for _, from := range append(numbers(), size-1, size) {
		if got := Steps(size, edges, from); got != nil {
			t.Errorf("%s: %d, %v: Steps from %d: %v", why, size, edges, from, got)
		}
	}
	if got := Wide(size, edges); got != 0 {
		t.Errorf("%s: %d, %v: Wide %d", why, size, edges, got)
	}
}

// numbers is those that are of replicas, those beside them, and those at either end of what there is.
func numbers() []int {
	l := []int{math.MinInt, math.MinInt + 1, math.MinInt32, -100, math.MaxInt32, math.MaxInt - 1, math.MaxInt, 1 << 32, 1<<32 + 1}
	for n := -6; n <= 12; n++ {
		l = append(l, n)
	}
	return l
}

// TestThreeInARow is the chapter's example.
func TestThreeInARow(t *testing.T) {
	wantSteps(t, 3, list{{1, 2}, {2, 3}}, 2, []int{0, 1, 2}, []int{1, 0, 1}, []int{2, 1, 0})
}

// TestOne: one replica is joined to itself without an edge, and no edge is of it alone.
func TestOne(t *testing.T) {
	wantSteps(t, 1, nil, 0, []int{0})
	wantSteps(t, 1, list{}, 0, []int{0})
	for _, e := range [][2]int{{0, 1}, {1, 1}, {1, 2}, {0, 0}} {
		wantNone(t, "an edge", 1, list{e})
	}
}

// TestFew: edges that are written out, of each size.
func TestFew(t *testing.T) {
	wantSteps(t, 2, list{{1, 2}}, 1, []int{0, 1}, []int{1, 0})
	wantSteps(t, 3, list{{1, 3}, {2, 3}}, 2, []int{0, 2, 1}, []int{2, 0, 1}, []int{1, 1, 0})
	wantSteps(t, 3, list{{1, 2}, {1, 3}, {2, 3}}, 1, []int{0, 1, 1}, []int{1, 0, 1}, []int{1, 1, 0})
	wantSteps(t, 4, list{{1, 4}, {2, 3}, {3, 4}}, 3, []int{0, 3, 2, 1}, []int{3, 0, 1, 2}, []int{2, 1, 0, 1}, []int{1, 2, 1, 0})
	wantSteps(t, 4, list{{1, 2}, {1, 3}, {2, 3}, {3, 4}}, 2, []int{0, 1, 1, 2}, []int{1, 0, 1, 2}, []int{1, 1, 0, 1}, []int{2, 2, 1, 0})
	wantSteps(t, 5, list{{1, 5}, {2, 4}, {3, 4}, {3, 5}}, 4, []int{0, 4, 2, 3, 1}, []int{4, 0, 2, 1, 3}, []int{2, 2, 0, 1, 1}, []int{3, 1, 1, 0, 2}, []int{1, 3, 1, 2, 0})
	wantSteps(t, 5, list{{1, 2}, {1, 3}, {2, 4}, {3, 4}, {4, 5}}, 3, []int{0, 1, 1, 2, 3}, []int{1, 0, 2, 1, 2}, []int{1, 2, 0, 1, 2}, []int{2, 1, 1, 0, 1}, []int{3, 2, 2, 1, 0})
}

// TestShapes: rows, rings, stars and all that may be, of each size.
func TestShapes(t *testing.T) {
	for size := 2; size <= api.MaxRepl; size++ {
		var far [][]int
		for a := 1; a <= size; a++ {
			var l []int
			for b := 1; b <= size; b++ {
				l = append(l, max(a-b, b-a))
			}
			far = append(far, l)
		}
		wantSteps(t, size, row(size), size-1, far...)
		wantSteps(t, size, full(size), 1)
		if size > 2 {
			wantSteps(t, size, ring(size), size/2)
			for at := 1; at <= size; at++ {
				wantSteps(t, size, star(size, at), 2)
			}
		}
	}
}

// TestSizes: only 1 to MaxRepl may be, whatever the edges.
func TestSizes(t *testing.T) {
	for _, size := range numbers() {
		if 1 <= size && size <= 5 {
			if edges := row(size); !May(size, edges) {
				t.Errorf("%d, %v: may not be", size, edges)
			}
			continue
		}
		wantNone(t, "no edges", size, nil)
		wantNone(t, "one edge", size, list{{1, 2}})
		wantNone(t, "one of size", size, list{{1, size}})
		for n := range 13 {
			wantNone(t, "a row", size, row(n))
			wantNone(t, "all", size, full(n))
		}
	}
}

// TestNoEdges: without edges none is joined to another.
func TestNoEdges(t *testing.T) {
	for size := 2; size <= api.MaxRepl; size++ {
		wantNone(t, "nil", size, nil)
		wantNone(t, "empty", size, list{})
	}
}

// TestFrom: Steps is told from 1 to size alone.
func TestFrom(t *testing.T) {
	for size := 1; size <= api.MaxRepl; size++ {
		for _, from := range numbers() {
			got := Steps(size, row(size), from)
			if in := 1 <= from && from <= size; in && len(got) != size || !in && got != nil {
				t.Errorf("%d from %d: %v", size, from, got)
			}
		}
	}
}

// TestBeside: Beside tells of one of both, whichever is first, and whatever else there is.
func TestBeside(t *testing.T) {
	for _, x := range []struct {
		edges list
		a, b  int
		want  bool
	}{
		{nil, 1, 2, false}, {nil, 1, 1, false}, {nil, 0, 0, false}, {list{}, 0, 0, false},
		{list{{1, 2}}, 1, 2, true}, {list{{1, 2}}, 2, 1, true}, {list{{1, 2}}, 1, 1, false}, {list{{1, 2}}, 2, 2, false}, {list{{1, 2}}, 1, 3, false},
		{list{{1, 2}, {2, 3}}, 1, 3, false}, {list{{1, 2}, {2, 3}}, 3, 2, true}, {list{{1, 2}, {3, 4}}, 2, 3, false}, {list{{1, 2}, {3, 4}}, 4, 3, true},
		{list{{2, 1}}, 1, 2, true}, {list{{2, 1}}, 2, 1, true}, {list{{2, 3}, {1, 2}}, 1, 2, true}, {list{{1, 2}, {1, 2}}, 2, 1, true},
		{list{{1, 1}}, 1, 1, true}, {list{{1, 1}}, 1, 2, false}, {list{{0, 9}}, 9, 0, true}, {list{{-3, 7}}, 7, -3, true}, {list{{-3, 7}}, 3, 7, false},
		{list{{math.MinInt, math.MaxInt}}, math.MaxInt, math.MinInt, true}, {list{{math.MinInt, math.MaxInt}}, math.MaxInt, math.MaxInt, false},
	} {
		if got := Beside(x.edges, x.a, x.b); got != x.want {
			t.Errorf("%v: %d beside %d: %v", x.edges, x.a, x.b, got)
		}
	}
}

// TestBesideWhatever: of lists of each kind, those that may not be among them, Beside tells what is written in them.
func TestBesideWhatever(t *testing.T) {
	for _, a := range numbers() {
		for _, b := range numbers() {
			for _, edges := range []list{{{a, b}}, {{b, a}}, {{1, 2}, {a, b}, {2, 3}}, {{a, b}, {a, b}}, {{b, a}, {a, b}}} {
				for _, x := range numbers() {
					for _, y := range numbers() {
						want := false
						for _, e := range edges {
							want = want || e[0] == x && e[1] == y || e[0] == y && e[1] == x
						}
						if got := Beside(edges, x, y); got != want {
							t.Fatal(fmt.Sprint(edges, x, y, got))
						}
					}
				}
			}
		}
	}
}
