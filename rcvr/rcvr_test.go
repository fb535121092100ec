package rcvr

import (
	"fmt"
	"math"
	"slices"
	"strconv"
	"strings"
	"testing"

	"cardamom/api"
)

func same(a, b api.Rcvr) bool {
	return a.Got.Up == b.Got.Up && slices.Equal(a.Got.More, b.Got.More) && slices.Equal(a.L, b.L)
}

func copyOf(r api.Rcvr) api.Rcvr {
	r.Got.More, r.L = slices.Clone(r.Got.More), slices.Clone(r.L)
	return r
}

func want(t *testing.T, what string, got api.Rcvr, told []string, wanted api.Rcvr, texts []string) {
	t.Helper()
	if !same(got, wanted) || !slices.Equal(told, texts) {
		t.Fatalf("%s: %+v %.200q, want %+v %.200q", what, got, told, wanted, texts)
	}
}

// comes asks for a piece and what comes of it.
func comes(t *testing.T, r api.Rcvr, s api.Seg, wanted api.Rcvr, texts ...string) api.Rcvr {
	t.Helper()
	got, told := Comes(r, s)
	want(t, fmt.Sprintf("%+v, then %+v", r, s), got, told, wanted, texts)
	return got
}

// nothing asks that a piece changes nothing, whatever its text.
func nothing(t *testing.T, r api.Rcvr, nums ...int) {
	t.Helper()
	for _, n := range nums {
		for _, text := range []string{"another", "", strconv.Itoa(n)} {
			comes(t, r, api.Seg{Num: n, B: text}, copyOf(r))
		}
	}
}

func seg(n int) api.Seg { return api.Seg{Num: n, B: strconv.Itoa(n)} }

// state is one behind all numbers up to up and these ahead of their turn, each with its number as its text.
func state(up int, ahead ...int) api.Rcvr {
	r := api.Rcvr{Got: api.Know{Up: up, More: slices.Clone(ahead)}}
	for _, n := range ahead {
		r.L = append(r.L, seg(n))
	}
	return r
}

// states is each that there is behind all numbers up to up: of the three further on that may come each is there or not.
func states(up int) []api.Rcvr {
	var l []api.Rcvr
	for set := range 8 {
		var ahead []int
		for i := range 3 {
			if n := up + 2 + i; set>>i&1 == 1 && n <= 1000000 {
				ahead = append(ahead, n)
			}
		}
		l = append(l, state(up, ahead...))
	}
	return l
}

// farOff is numbers that are far from each in use.
func farOff() []int {
	return []int{math.MinInt, math.MinInt + 1, math.MinInt + 3, math.MinInt + 4, math.MinInt + 5, math.MinInt32 - 1, math.MinInt32, -1000000, -1000, 2000000, math.MaxInt32 - 1, math.MaxInt32, math.MaxUint32, math.MaxInt - 4, math.MaxInt - 1, math.MaxInt}
}

func TestExample(t *testing.T) {
	r := comes(t, api.Rcvr{}, api.Seg{Num: 2, B: "b"}, api.Rcvr{Got: api.Know{More: []int{2}}, L: []api.Seg{{Num: 2, B: "b"}}})
	comes(t, r, api.Seg{Num: 1, B: "a"}, api.Rcvr{Got: api.Know{Up: 2}}, "a", "b")
}

// TestNothingHasCome: each number from 0 to one more than may come, where nothing has.
func TestNothingHasCome(t *testing.T) {
	var r api.Rcvr
	nothing(t, r, -2, -1, 0, 5, 6, 7, 8, 9)
	comes(t, r, seg(1), state(1), "1")
	comes(t, r, seg(2), state(0, 2))
	comes(t, r, seg(3), state(0, 3))
	comes(t, r, seg(4), state(0, 4))
}

// TestNext: number Up + 1, with nothing in L, with what is next there, with a gap behind, with none that is next.
func TestNext(t *testing.T) {
	for _, x := range []struct {
		ahead []int
		left  api.Rcvr
		told  []string
	}{
		{nil, state(11), []string{"11"}},
		{[]int{12}, state(12), []string{"11", "12"}},
		{[]int{12, 13}, state(13), []string{"11", "12", "13"}},
		{[]int{12, 13, 14}, state(14), []string{"11", "12", "13", "14"}},
		{[]int{12, 14}, state(12, 14), []string{"11", "12"}},
		{[]int{13}, state(11, 13), []string{"11"}},
		{[]int{14}, state(11, 14), []string{"11"}},
		{[]int{13, 14}, state(11, 13, 14), []string{"11"}},
	} {
		r := comes(t, state(10, x.ahead...), seg(11), x.left, x.told...)
		nothing(t, r, 11)
	}
}

// TestAhead: a piece further on: where L has nothing, ahead of all in L, between two of them, behind them all.
func TestAhead(t *testing.T) {
	for _, x := range []struct {
		ahead []int
		n     int
		left  []int
	}{
		{nil, 12, []int{12}},
		{nil, 13, []int{13}},
		{nil, 14, []int{14}},
		{[]int{13}, 12, []int{12, 13}},
		{[]int{14}, 12, []int{12, 14}},
		{[]int{14}, 13, []int{13, 14}},
		{[]int{13, 14}, 12, []int{12, 13, 14}},
		{[]int{12, 14}, 13, []int{12, 13, 14}},
		{[]int{12}, 13, []int{12, 13}},
		{[]int{12}, 14, []int{12, 14}},
		{[]int{13}, 14, []int{13, 14}},
		{[]int{12, 13}, 14, []int{12, 13, 14}},
	} {
		r := comes(t, state(10, x.ahead...), seg(x.n), state(10, x.left...))
		nothing(t, r, x.n)
	}
}

// TestEachNumber: each number around each state there is, at the beginning, further on, and at the end of what can be known.
func TestEachNumber(t *testing.T) {
	for _, up := range []int{0, 1, 2, 3, 4, 5, 6, 59, 60, 61, 1000, 999990, 999994, 999995, 999996, 999997, 999998, 999999, 1000000} {
		for _, r := range states(up) {
			nothing(t, r, farOff()...)
			for n := up - 9; n <= up+14; n++ {
				switch {
				case n <= up || n > up+4 || n > 1000000 || slices.Contains(r.Got.More, n):
					nothing(t, r, n)
				case n == up+1:
					told := []string{strconv.Itoa(n)}
					last := n
					for slices.Contains(r.Got.More, last+1) {
						last++
						told = append(told, strconv.Itoa(last))
					}
					left := slices.DeleteFunc(slices.Clone(r.Got.More), func(m int) bool { return m <= last })
					comes(t, r, seg(n), state(last, left...), told...)
				default:
					left := append(slices.Clone(r.Got.More), n)
					slices.Sort(left)
					comes(t, r, seg(n), state(up, left...))
				}
			}
		}
	}
}

// TestFirstText: what is told is the text that a piece came with first.
func TestFirstText(t *testing.T) {
	r := comes(t, api.Rcvr{}, api.Seg{Num: 3, B: "first"}, api.Rcvr{Got: api.Know{More: []int{3}}, L: []api.Seg{{Num: 3, B: "first"}}})
	r = comes(t, r, api.Seg{Num: 3, B: "second"}, r)
	r = comes(t, r, api.Seg{Num: 2, B: ""}, api.Rcvr{Got: api.Know{More: []int{2, 3}}, L: []api.Seg{{Num: 2}, {Num: 3, B: "first"}}})
	r = comes(t, r, api.Seg{Num: 2, B: "second"}, r)
	r = comes(t, r, api.Seg{Num: 1, B: "one"}, api.Rcvr{Got: api.Know{Up: 3}}, "one", "", "first")
	for n := 1; n <= 3; n++ {
		r = comes(t, r, api.Seg{Num: n, B: "third"}, r)
	}
}

// TestTexts: a text is not looked into: an empty one is one, and one that came ahead is one more.
func TestTexts(t *testing.T) {
	every := make([]byte, 256)
	for i := range every {
		every[i] = byte(i)
	}
	long := strings.Repeat("long", 1<<18)
	for _, l := range [][4]string{
		{"", "", "", ""},
		{long, long, "", long},
		{"a", "a", "a", "a"},
		{"a", "", "a", ""},
		{string(every), "\x00", "\xff\xfe", "é"},
		{"4", "3", "2", "1"},
		{"\n", " ", "\xc3", "9223372036854775808"},
	} {
		for first := range 4 {
			var r api.Rcvr
			var all []string
			for i := range 4 {
				n := (first + 3*i) % 4
				var told []string
				r, told = Comes(r, api.Seg{Num: n + 1, B: l[n]})
				all = append(all, told...)
			}
			if !same(r, api.Rcvr{Got: api.Know{Up: 4}}) || !slices.Equal(all, l[:]) {
				t.Fatalf("%.20q, number %d first: not as they were", l, first+1)
			}
		}
	}
}

// TestNilAndEmpty: a list without anything is one, be it there or not.
func TestNilAndEmpty(t *testing.T) {
	for _, more := range [][]int{nil, {}, make([]int, 0, 3), []int{9, 9, 9}[:0]} {
		for _, l := range [][]api.Seg{nil, {}, make([]api.Seg, 0, 3), []api.Seg{seg(7), seg(8)}[:0]} {
			r := api.Rcvr{Got: api.Know{Up: 3, More: more}, L: l}
			nothing(t, r, 0, 1, 2, 3, 8)
			comes(t, r, seg(4), state(4), "4")
			comes(t, r, seg(5), state(3, 5))
			comes(t, r, seg(7), state(3, 7))
		}
	}
}

// TestNothingIsTold: beside nothing there is no text, not even an empty one.
func TestNothingIsTold(t *testing.T) {
	for _, r := range states(5) {
		for _, n := range append(farOff(), 0, 1, 5, 7, 8, 9, 10) {
			if _, told := Comes(r, api.Seg{Num: n}); len(told) != 0 {
				t.Errorf("%+v, then %d: %q", r, n, told)
			}
		}
	}
}
