package rcvr

import (
	"cmp"
	"fmt"
	"math"
	"math/big"
	"slices"
	"testing"

	"cardamom/api"
	"cardamom/know"
)

// upTo tells whether a is at most b + c, in numbers that have no end.
func upTo(a, b, c int) bool {
	sum := new(big.Int).Add(big.NewInt(int64(b)), big.NewInt(int64(c)))
	return big.NewInt(int64(a)).Cmp(sum) <= 0
}

// words is the promise's words for any state; what can't be known changes nothing. L is told in another order.
func words(r api.Rcvr, s api.Seg) (api.Rcvr, []string) {
	got := know.Add(r.Got, s.Num)
	if know.Has(r.Got, s.Num) || s.Num < 1 || !upTo(s.Num, r.Got.Up, 4) || !know.Has(got, s.Num) {
		return r, nil
	}
	l, turn := slices.Clone(r.L), upTo(s.Num, r.Got.Up, 1)
	r.Got = got
	if turn {
		told, next := []string{s.B}, s.Num+1
		r.L = nil
		for _, x := range l {
			if x.Num != next {
				r.L = append(r.L, x)
				continue
			}
			told, next = append(told, x.B), next+1
		}
		return r, told
	}
	r.L = append(l, s)
	return r, nil
}

// sorted is r with L in one order, whatever it was.
func sorted(r api.Rcvr) api.Rcvr {
	r.L = slices.SortedFunc(slices.Values(r.L), func(a, b api.Seg) int {
		return cmp.Or(cmp.Compare(a.Num, b.Num), cmp.Compare(a.B, b.B))
	})
	return r
}

// ends is numbers at either end of what there is, at those of what can be known, and small ones.
func ends() []int {
	return []int{math.MinInt, math.MinInt + 1, math.MinInt + 3, math.MinInt + 4, math.MinInt + 5, math.MinInt32, -5, -4, -3, -1, 0, 1, 2, 3, 4, 5, 6, 9, 999996, 999999, 1000000, 1000001, 1000004, math.MaxInt32, math.MaxInt - 5, math.MaxInt - 4, math.MaxInt - 3, math.MaxInt - 1, math.MaxInt}
}

// oddSets is rows of numbers ahead of their turn that no call made.
func oddSets() [][]int {
	var all []int
	for n := range 200 {
		all = append(all, n-50)
	}
	return [][]int{nil, {1}, {0, 1, 2}, {2, 3, 4, 5, 6, 7, 8, 9, 10}, {5, 4, 3, 2, 1, 0}, {2, 2, 2}, {3, 3, 4, 4}, all,
		{math.MinInt, math.MinInt, 2, 1000000, 1000001}, {math.MaxInt, 4, math.MinInt}, {math.MaxInt - 1, math.MaxInt, math.MaxInt}}
}

func segs(l []int) []api.Seg {
	var out []api.Seg
	for _, n := range l {
		out = append(out, seg(n))
	}
	return out
}

// TestOddStates: no state makes a call fail, or go on without an end, and each is answered by the same words.
func TestOddStates(t *testing.T) {
	for _, up := range ends() {
		for _, more := range oddSets() {
			for _, l := range oddSets() {
				r := api.Rcvr{Got: api.Know{Up: up, More: more}, L: segs(l)}
				for _, n := range ends() {
					got, told := Comes(r, api.Seg{Num: n, B: "y"})
					wanted, texts := words(r, api.Seg{Num: n, B: "y"})
					want(t, fmt.Sprintf("%+v, then %d", r, n), sorted(got), told, sorted(wanted), texts)
					byNum := func(a, b api.Seg) int { return cmp.Compare(a.Num, b.Num) }
					if slices.IsSortedFunc(r.L, byNum) && !slices.IsSortedFunc(got.L, byNum) {
						t.Fatalf("%+v, then %d: %+v", r, n, got)
					}
				}
			}
		}
	}
}

// TestOddNumbers: numbers beside each Up, which wrap round at either end.
func TestOddNumbers(t *testing.T) {
	for _, up := range ends() {
		for step := -9; step <= 9; step++ {
			r := api.Rcvr{Got: api.Know{Up: up}, L: segs([]int{up + 1, up + 2, up + 4})}
			got, told := Comes(r, api.Seg{Num: up + step, B: "y"})
			wanted, texts := words(r, api.Seg{Num: up + step, B: "y"})
			want(t, fmt.Sprintf("Up %d, then %d more", up, step), sorted(got), told, sorted(wanted), texts)
		}
	}
}

// TestOddExamples: some of them written out.
func TestOddExamples(t *testing.T) {
	nothing(t, api.Rcvr{Got: api.Know{Up: 1000000}}, 1000001, 1000002, 1000004)
	nothing(t, api.Rcvr{Got: api.Know{Up: 999998}}, 1000001, 1000002)
	nothing(t, api.Rcvr{Got: api.Know{Up: math.MaxInt}}, 1, 1000000, math.MaxInt, math.MinInt, math.MinInt+3, 0)
	nothing(t, api.Rcvr{Got: api.Know{Up: math.MinInt}}, 1, 1000000, math.MaxInt, math.MinInt, math.MinInt+1, math.MinInt+4, 0)
	nothing(t, api.Rcvr{Got: api.Know{Up: -4}}, -4, -3, -2, -1, 0, 1)
	nothing(t, api.Rcvr{Got: api.Know{Up: 3, More: []int{0, 5, 9}}, L: segs([]int{9, 4})}, 0, 1, 2, 3, 5, 8, 9)
	comes(t, api.Rcvr{Got: api.Know{Up: 3, More: []int{5}}}, seg(4), state(5), "4")
	comes(t, api.Rcvr{L: segs([]int{2})}, seg(1), api.Rcvr{Got: api.Know{Up: 1}}, "1", "2")
	comes(t, api.Rcvr{L: segs([]int{1, 1, 2, 2, 9})}, seg(1), api.Rcvr{Got: api.Know{Up: 1}, L: segs([]int{1, 1, 2, 9})}, "1", "2")
	comes(t, api.Rcvr{L: segs([]int{1, 3, 9})}, seg(2), api.Rcvr{Got: api.Know{More: []int{2}}, L: segs([]int{1, 2, 3, 9})})
}
