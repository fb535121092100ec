package net

import (
	"math"
	"slices"
	"strconv"
	"strings"
	"testing"

	"cardamom/api"
)

// gram is one that was not turned.
func gram(s string) api.Gram { return api.Gram{From: 1, To: 2, B: s} }

// turned is one that was.
func turned(s string) api.Gram { return api.Gram{From: 1, To: 2, B: s, Turned: true} }

// grams is n of them, each another one: 1, 2, ..; every third is Turned.
func grams(n int) []api.Gram {
	var l []api.Gram
	for i := range n {
		l = append(l, api.Gram{From: i%5 + 1, To: (i+2)%5 + 1, B: "number " + strconv.Itoa(i+1), Turned: i%3 == 2})
	}
	return l
}

// join is new memory with all of these.
func join(lists ...[]api.Gram) []api.Gram { return slices.Concat(lists...) }

func want(t *testing.T, what string, got []api.Gram, ok bool, wanted []api.Gram, wantedOK bool) {
	t.Helper()
	if ok != wantedOK || !slices.Equal(got, wanted) {
		t.Fatalf("%s: %+v, %v, want %+v, %v", what, got, ok, wanted, wantedOK)
	}
}

// noNumbers is numbers that none of so many has.
func noNumbers(n int) []int {
	return []int{-1, n, -2, n + 1, n + 256, -n - 1, -256, -257, math.MinInt, math.MinInt + 1, math.MinInt32, math.MaxInt32, math.MaxUint32, math.MaxUint32 + 1, math.MaxInt - 1, math.MaxInt}
}

// TestExample: Send, Comes: it.
func TestExample(t *testing.T) {
	g := api.Gram{From: 3, To: 1, B: "told"}
	l, ok := Send(nil, g)
	want(t, "Send", l, ok, []api.Gram{g}, true)
	left, came, ok := Comes(l, 0)
	want(t, "Comes", left, ok, nil, true)
	if came != g {
		t.Errorf("%+v came", came)
	}
}

// TestSend: it is the last, whatever it is, while there are fewer than MaxFly; behind that it is lost.
func TestSend(t *testing.T) {
	for n := range api.MaxFly + 1 {
		for _, g := range []api.Gram{gram("new"), gram(""), turned("new"), turned(""), {}, {From: -7, To: 99, B: "\x00\xff"}, gram(strings.Repeat("x", api.MaxFrame))} {
			l, ok := Send(grams(n), g)
			if n < api.MaxFly {
				want(t, "room", l, ok, join(grams(n), []api.Gram{g}), true)
			} else {
				want(t, "no room", l, ok, grams(n), false)
			}
		}
	}
}

// TestRoomAgain: once one has come or is lost, one more may be sent, or be there twice.
func TestRoomAgain(t *testing.T) {
	full := grams(20)
	l, _, _ := Comes(full, 7)
	sent, ok := Send(l, gram("new"))
	want(t, "Send", sent, ok, join(full[:7], full[8:], []api.Gram{gram("new")}), true)
	l, _ = Lost(full, 0)
	twice, ok := Twice(l, 0)
	want(t, "Twice", twice, ok, join(full[1:], full[1:2]), true)
	more, ok := Send(twice, gram("new"))
	want(t, "no room again", more, ok, twice, false)
}

// TestComesAndLost: number i goes, what is behind it moves up by one and keeps its order; Comes tells it, Lost tells just the rest.
func TestComesAndLost(t *testing.T) {
	for n := 1; n <= api.MaxFly; n++ {
		for i := range n {
			all := grams(n)
			rest := join(all[:i], all[i+1:])
			l, g, ok := Comes(grams(n), i)
			want(t, "Comes", l, ok, rest, true)
			if g != all[i] {
				t.Fatalf("number %d of %d: %+v came, want %+v", i, n, g, all[i])
			}
			l, ok = Lost(grams(n), i)
			want(t, "Lost", l, ok, rest, true)
		}
	}
}

// TestAlike: of two that are alike just the one goes.
func TestAlike(t *testing.T) {
	l := []api.Gram{gram("a"), gram("a"), gram("b"), gram("a")}
	for i, rest := range [][]api.Gram{l[1:], l[1:], {l[0], l[1], l[3]}, l[:3]} {
		left, g, ok := Comes(l, i)
		want(t, "Comes", left, ok, rest, true)
		if g != l[i] {
			t.Errorf("%+v came", g)
		}
		left, ok = Lost(l, i)
		want(t, "Lost", left, ok, rest, true)
	}
}

// TestTwice: the other one is the last and like it in all, Turned if it is; no, while there are MaxFly.
func TestTwice(t *testing.T) {
	for n := 1; n <= api.MaxFly; n++ {
		for i := range n {
			l, ok := Twice(grams(n), i)
			if n < api.MaxFly {
				want(t, "room", l, ok, join(grams(n), grams(n)[i:i+1]), true)
			} else {
				want(t, "no room", l, ok, grams(n), false)
			}
		}
	}
	odd := []api.Gram{gram(""), turned(""), {}, {From: -3, To: 77, B: "\x00", Turned: true}, turned("bc")}
	for i, g := range odd {
		l, ok := Twice(odd, i)
		want(t, "Twice", l, ok, join(odd, []api.Gram{g}), true)
		if l[len(odd)].Turned != g.Turned {
			t.Errorf("%+v twice: %+v", g, l[len(odd)])
		}
	}
}

// TestTwiceIsTwo: what becomes of the one becomes not of the other.
func TestTwiceIsTwo(t *testing.T) {
	l, _ := Twice([]api.Gram{gram("ab"), gram("c")}, 0)
	first, ok := Turned(l, 0, 1)
	want(t, "the first", first, ok, []api.Gram{turned("`b"), gram("c"), gram("ab")}, true)
	other, ok := Turned(first, 2, 256+3)
	want(t, "the other", other, ok, []api.Gram{turned("`b"), gram("c"), turned("aa")}, true)
	third, ok := Twice(other, 2)
	want(t, "the other again", third, ok, []api.Gram{turned("`b"), gram("c"), turned("aa"), turned("aa")}, true)
	left, ok := Lost(third, 2)
	want(t, "the other is lost", left, ok, []api.Gram{turned("`b"), gram("c"), turned("aa")}, true)
}

// TestNoNumber: where there is no number i, each says no and tells l; Comes tells a nought Gram.
func TestNoNumber(t *testing.T) {
	for n := range api.MaxFly + 1 {
		for _, i := range noNumbers(n) {
			l, g, ok := Comes(grams(n), i)
			want(t, "Comes", l, ok, grams(n), false)
			if g != (api.Gram{}) {
				t.Fatalf("number %d of %d: %+v came", i, n, g)
			}
			l, ok = Lost(grams(n), i)
			want(t, "Lost", l, ok, grams(n), false)
			l, ok = Twice(grams(n), i)
			want(t, "Twice", l, ok, grams(n), false)
			for _, to := range []int{1, 0, 256, -1, math.MinInt, math.MaxInt} {
				l, ok = Turned(grams(n), i, to)
				want(t, "Turned", l, ok, grams(n), false)
			}
		}
	}
}

// TestNilIsEmpty: nil, a list that is empty, and one that is empty and has spare room are one.
func TestNilIsEmpty(t *testing.T) {
	for _, none := range [][]api.Gram{nil, {}, make([]api.Gram, 0, 9), grams(20)[:0], grams(20)[20:]} {
		l, ok := Send(none, gram("a"))
		want(t, "Send", l, ok, []api.Gram{gram("a")}, true)
		for _, i := range append(noNumbers(0), 0) {
			l, g, ok := Comes(none, i)
			want(t, "Comes", l, ok, nil, false)
			if g != (api.Gram{}) {
				t.Errorf("%d: %+v came", i, g)
			}
			l, ok = Lost(none, i)
			want(t, "Lost", l, ok, nil, false)
			l, ok = Twice(none, i)
			want(t, "Twice", l, ok, nil, false)
			l, ok = Turned(none, i, 1)
			want(t, "Turned", l, ok, nil, false)
		}
	}
}
