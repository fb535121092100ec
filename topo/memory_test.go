package topo

import (
	"slices"
	"sync"
	"testing"
	"unsafe"
)

// roomy is edges with spare room behind them, filled with what would be edges.
func roomy(edges list) list {
	l := slices.Concat(edges, list{{1, 2}, {4, 5}, {0, 9}, {3, 3}})
	return l[:len(edges)]
}

// whole is a copy of l with its spare room as a part of it.
func whole(l list) list { return slices.Clone(l[:cap(l)]) }

// kinds is lists of each kind: those that may be of each size, and those that may not.
func kinds() []list {
	l := []list{nil, {}, {{2, 1}}, {{1, 1}}, {{1, 2}, {1, 2}}, {{2, 3}, {1, 2}}, {{0, 1}}, {{1, 2}, {3, 4}}}
	for size := 2; size <= 6; size++ {
		l = append(l, row(size), full(size), star(size, 2))
	}
	return l
}

// told is all that is told of edges, as one row of numbers.
func told(edges list) []int {
	var out []int
	yes := func(ok bool) int {
		if ok {
			return 1
		}
		return 0
	}
	for size := -1; size <= 7; size++ {
		out = append(out, yes(May(size, edges)), Wide(size, edges))
		for from := -1; from <= 7; from++ {
			out = append(out, yes(Beside(edges, size, from)))
			steps := Steps(size, edges, from)
			out = append(append(out, len(steps)), steps...)
		}
	}
	return out
}

// TestLeftAsItWas: what is handed in is as it was, its spare room too.
func TestLeftAsItWas(t *testing.T) {
	for _, edges := range kinds() {
		l := roomy(edges)
		was := whole(l)
		first := told(l)
		if !slices.Equal(whole(l), was) {
			t.Errorf("handed in: %v, was %v", whole(l), was)
		}
		if !slices.Equal(first, told(slices.Clip(slices.Clone(edges)))) {
			t.Errorf("%v: the spare room is heeded", edges)
		}
	}
}

// TestNewMemory: what is told is in new memory each time: what is written over in it, its spare room too, is in no later answer.
func TestNewMemory(t *testing.T) {
	joined(func(size int, edges list) {
		l := roomy(edges)
		for from := 1; from <= size; from++ {
			first, second := Steps(size, l, from), Steps(size, l, from)
			was := slices.Clone(second)
			if unsafe.SliceData(first) == unsafe.SliceData(second) {
				t.Fatalf("%d, %v from %d: told in one place twice", size, edges, from)
			}
			first = first[:cap(first)]
			for i := range first {
				first[i] = -99
			}
			if !slices.Equal(second, was) || !slices.Equal(Steps(size, l, from), was) || !slices.Equal(l, edges) {
				t.Fatalf("%d, %v from %d: %v, was %v", size, edges, from, second, was)
			}
		}
	})
}

// TestNotKept: what was told before hangs no more on what was handed in.
func TestNotKept(t *testing.T) {
	for _, edges := range kinds() {
		l := roomy(edges)
		before := told(l)
		for size := 1; size <= 5; size++ {
			steps := Steps(size, l, 1)
			was := slices.Clone(steps)
			spoilt := l[:cap(l)]
			for i := range spoilt {
				spoilt[i] = [2]int{-99, -99}
			}
			if !slices.Equal(steps, was) {
				t.Errorf("%d, %v: %v, was %v", size, edges, steps, was)
			}
			copy(l, edges)
		}
		if !slices.Equal(told(l), before) {
			t.Errorf("%v: told anew otherwise", edges)
		}
	}
}

// TestNilAndEmpty: nil and an empty list are one, with spare room and without.
func TestNilAndEmpty(t *testing.T) {
	want := told(nil)
	for _, empty := range []list{{}, make(list, 0, 9), roomy(nil), full(5)[:0]} {
		if !slices.Equal(told(empty), want) {
			t.Errorf("empty, of room for %d: %v, want %v", cap(empty), told(empty), want)
		}
	}
}

// TestSameEachTime: the same input has the same answer each time, whoever else asks meanwhile.
func TestSameEachTime(t *testing.T) {
	for _, edges := range kinds() {
		want := told(edges)
		var all sync.WaitGroup
		for range 4 {
			all.Go(func() {
				for range 5 {
					if !slices.Equal(told(edges), want) {
						t.Errorf("%v: told otherwise", edges)
					}
				}
			})
		}
		all.Wait()
	}
}
