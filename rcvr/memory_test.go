package rcvr

import (
	"fmt"
	"slices"
	"strings"
	"sync"
	"testing"
	"unsafe"

	"cardamom/api"
)

// roomy is r with spare room behind each of its lists, filled with something.
func roomy(r api.Rcvr) api.Rcvr {
	r = copyOf(r)
	r.Got.More = append(r.Got.More, 77, 5, 0, 78, 6)[:len(r.Got.More)]
	r.L = append(r.L, api.Seg{Num: 77, B: "spare"}, api.Seg{Num: 5, B: "room"}, api.Seg{}, api.Seg{Num: 78}, api.Seg{Num: 6, B: "too"})[:len(r.L)]
	return r
}

// wide is r with its spare room as a part of it.
func wide(r api.Rcvr) api.Rcvr {
	r.Got.More, r.L = r.Got.More[:cap(r.Got.More)], r.L[:cap(r.L)]
	return copyOf(r)
}

// spoil writes over all that r's lists and told have, their spare room too.
func spoil(r api.Rcvr, told []string) {
	more, l := r.Got.More[:cap(r.Got.More)], r.L[:cap(r.L)]
	for i := range more {
		more[i] = -99
	}
	for i := range l {
		l[i] = api.Seg{Num: -99, B: "spoilt"}
	}
	told = told[:cap(told)]
	for i := range told {
		told[i] = "spoilt"
	}
}

// someStates is those behind none and behind four, and some that were never made.
func someStates() []api.Rcvr {
	l := append(states(0), states(4)...)
	return append(l, api.Rcvr{Got: api.Know{Up: 2, More: []int{4, 9, 12}}, L: segs([]int{4, 3, 9, 5, 4})}, api.Rcvr{Got: api.Know{Up: -1, More: []int{5, 2}}, L: segs([]int{1, 2})})
}

func someNumbers() []int { return []int{-1, 0, 1, 2, 3, 4, 5, 6, 7, 8, 9, 10} }

// TestLeftAsItWas: what is handed in is as it was, its spare room too, and what is told hangs on it no more; where r comes back as it was, it is new memory too.
func TestLeftAsItWas(t *testing.T) {
	for _, state := range someStates() {
		for _, n := range someNumbers() {
			r, what := roomy(state), fmt.Sprintf("%+v, then %d", state, n)
			was := wide(r)
			first, texts := Comes(r, seg(n))
			told, once := copyOf(first), slices.Clone(texts)
			want(t, what+", handed in", wide(r), nil, was, nil)
			second, more := Comes(r, seg(n))
			spoil(second, more)
			want(t, what+", handed in, once what is told is written over", wide(r), nil, was, nil)
			want(t, what+", told, once the same told again is written over", first, texts, told, once)
			spoil(r, nil)
			want(t, what+", told, once what was handed in is written over", first, texts, told, once)
			spoil(first, nil)
			want(t, what+", told beside r, once that is written over", r, texts, r, once)
		}
	}
}

// TestOneListLeavesTheOther: what is written over one list of an answer changes none of the others, nor does what is put behind it.
func TestOneListLeavesTheOther(t *testing.T) {
	for _, state := range someStates() {
		for _, n := range someNumbers() {
			what := fmt.Sprintf("%+v, then %d", state, n)
			wanted, texts := Comes(state, seg(n))
			r, told := Comes(state, seg(n))
			told = append(told, "x", "y", "z")
			spoil(api.Rcvr{}, told)
			want(t, what, r, nil, wanted, nil)
			more := append(r.Got.More, 1, 2, 3)
			spoil(api.Rcvr{Got: api.Know{More: more}}, nil)
			spoil(api.Rcvr{Got: r.Got}, nil)
			if !slices.Equal(r.L, wanted.L) {
				t.Fatalf("%s: L is %+v", what, r.L)
			}
			r, told = Comes(state, seg(n))
			spoil(api.Rcvr{L: append(r.L, seg(1), seg(2), seg(3))}, nil)
			spoil(api.Rcvr{L: r.L}, nil)
			want(t, what, api.Rcvr{Got: r.Got}, told, api.Rcvr{Got: wanted.Got}, texts)
		}
	}
}

// TestTwoWays: two that go on from one state know nothing of each other.
func TestTwoWays(t *testing.T) {
	r, _ := Comes(api.Rcvr{}, seg(2))
	r, _ = Comes(r, seg(4))
	a := comes(t, r, seg(1), state(2, 4), "1", "2")
	b := comes(t, r, seg(3), state(0, 2, 3, 4))
	c := comes(t, b, seg(1), state(4), "1", "2", "3", "4")
	comes(t, a, seg(6), state(2, 4, 6))
	d := comes(t, a, seg(5), state(2, 4, 5))
	comes(t, d, seg(3), state(5), "3", "4", "5")
	comes(t, c, seg(5), state(5), "5")
	want(t, "the first", r, nil, state(0, 2, 4), nil)
	want(t, "a", a, nil, state(2, 4), nil)
	want(t, "b", b, nil, state(0, 2, 3, 4), nil)
	want(t, "d", d, nil, state(2, 4, 5), nil)
}

// TestTextsAreNewMemory: no text that is told lies where one that was handed in does, or another that is told.
func TestTextsAreNewMemory(t *testing.T) {
	text := strings.Repeat("text", 5)
	for _, r := range someStates() {
		for i := range r.L {
			r.L[i].B = text
		}
		all := []*byte{unsafe.StringData(text)}
		note := func(s string) {
			p := unsafe.StringData(s)
			if slices.Contains(all, p) {
				t.Fatalf("%+v: two texts are in one place", r)
			}
			all = append(all, p)
		}
		for _, n := range someNumbers() {
			got, told := Comes(r, api.Seg{Num: n, B: text})
			for _, s := range got.L {
				note(s.B)
			}
			for _, s := range told {
				note(s)
			}
		}
	}
}

// TestSpareRoomIsNothing: what is told hangs on no spare room.
func TestSpareRoomIsNothing(t *testing.T) {
	for _, r := range someStates() {
		tight := copyOf(r)
		tight.Got.More, tight.L = slices.Clip(tight.Got.More), slices.Clip(tight.L)
		for _, n := range someNumbers() {
			wanted, texts := Comes(tight, seg(n))
			got, told := Comes(roomy(r), seg(n))
			want(t, "with spare room", got, told, wanted, texts)
		}
	}
}

// TestSameEachTime: the same states and pieces tell the same, asked side by side too.
func TestSameEachTime(t *testing.T) {
	type ask struct {
		r api.Rcvr
		s api.Seg
	}
	type answer struct {
		r    api.Rcvr
		told []string
	}
	var asks []ask
	var first []answer
	for _, r := range someStates() {
		for _, n := range someNumbers() {
			asks = append(asks, ask{roomy(r), seg(n)})
			got, told := Comes(r, seg(n))
			first = append(first, answer{got, told})
		}
	}
	var group sync.WaitGroup
	for range 8 {
		group.Go(func() {
			for range 5 {
				for i, a := range asks {
					if got, told := Comes(a.r, a.s); !same(got, first[i].r) || !slices.Equal(told, first[i].told) {
						t.Errorf("%+v %q, %+v at first", got, told, first[i])
					}
				}
			}
		})
	}
	group.Wait()
}
