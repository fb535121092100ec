package wind

import (
	"math"
	"math/big"
	"slices"
	"testing"

	"cardamom/api"
)

// below tells whether a is below b + c, in numbers that have no end.
func below(a, b, c int) bool {
	sum := new(big.Int).Add(big.NewInt(int64(b)), big.NewInt(int64(c)))
	return big.NewInt(int64(a)).Cmp(sum) < 0
}

// wordsGoOn is the promise's words for any state; where there is no number behind Next, none goes.
func wordsGoOn(w api.Wind) api.Wind {
	for len(w.Wait) > 0 && w.Next != math.MaxInt && below(w.Next, w.Base, api.MaxWind) {
		w.L = append(slices.Clone(w.L), api.Seg{Num: w.Next, B: w.Wait[0]})
		w.Wait = w.Wait[1:]
		w.Next++
	}
	return w
}

func wordsSend(w api.Wind, s string) api.Wind {
	w.Wait = append(slices.Clone(w.Wait), s)
	return wordsGoOn(w)
}

func wordsTold(w api.Wind, up int) api.Wind {
	if up < w.Base || up >= w.Next {
		return w
	}
	w.L = slices.DeleteFunc(slices.Clone(w.L), func(s api.Seg) bool { return s.Num <= up })
	w.Base = up + 1
	return wordsGoOn(w)
}

// ends is numbers at either end of what there is, and small ones.
func ends() []int {
	return []int{math.MinInt, math.MinInt + 1, math.MinInt + 3, math.MinInt + 4, math.MinInt + 5, math.MinInt32, -5, -4, -1, 0, 1, 2, 4, 5, 9, math.MaxInt32, math.MaxInt - 5, math.MaxInt - 4, math.MaxInt - 3, math.MaxInt - 1, math.MaxInt}
}

// oddLists is rows under way that these calls never made.
func oddLists() [][]api.Seg {
	seg := func(l ...int) []api.Seg {
		var out []api.Seg
		for _, n := range l {
			out = append(out, api.Seg{Num: n, B: "x"})
		}
		return out
	}
	return [][]api.Seg{
		nil, seg(1), seg(5, 4, 3, 2, 1, 0), seg(2, 2, 2), seg(1, 2, 3, 4, 5, 6, 7, 8, 9, 10),
		seg(math.MaxInt, math.MinInt, 0, -1), seg(math.MinInt, math.MinInt, math.MaxInt-1, math.MaxInt, math.MaxInt),
	}
}

// TestOddStates: no state makes a call fail, or go on without an end, and each is answered by the same words.
func TestOddStates(t *testing.T) {
	for _, base := range ends() {
		for _, next := range ends() {
			for _, l := range oddLists() {
				for _, n := range []int{0, 1, 3, 12} {
					w := api.Wind{Base: base, Next: next, L: l, Wait: texts(n)}
					want(t, "Send", Send(w, "y"), wordsSend(w, "y"))
					for _, up := range ends() {
						want(t, "Told", Told(w, up), wordsTold(w, up))
					}
				}
			}
		}
	}
}

// TestOddNumbers: Next and up beside each Base in each way.
func TestOddNumbers(t *testing.T) {
	for _, base := range ends() {
		for step := -9; step <= 9; step++ {
			next := base + step // It wraps round at either end: one more that was never made.
			for at := -2; at <= 9; at++ {
				w := api.Wind{Base: base, Next: next, L: []api.Seg{{Num: base, B: "x"}, {Num: next - 1, B: "y"}}, Wait: texts(6)}
				want(t, "Send", Send(w, ""), wordsSend(w, ""))
				want(t, "Told from Base on", Told(w, base+at), wordsTold(w, base+at))
				want(t, "Told from Next on", Told(w, next-at), wordsTold(w, next-at))
			}
		}
	}
}

// TestOddExamples: some of them written out.
func TestOddExamples(t *testing.T) {
	l := []api.Seg{{Num: 7, B: "g"}, {Num: 2, B: "b"}, {Num: 5, B: "e"}, {Num: 2, B: "c"}, {Num: -9, B: "z"}}
	for what, x := range map[string]struct{ got, want api.Wind }{
		"no numbers at all":            {Send(api.Wind{}, "a"), api.Wind{Next: 1, L: []api.Seg{{Num: 0, B: "a"}}}},
		"nothing told of nothing":      {Told(api.Wind{}, 0), api.Wind{}},
		"Next far below Base":          {Send(api.Wind{Base: 90, Next: 3, Wait: texts(2)}, "a"), api.Wind{Base: 90, Next: 6, L: []api.Seg{{Num: 3, B: "1"}, {Num: 4, B: "2"}, {Num: 5, B: "a"}}}},
		"Next just below Base":         {Send(api.Wind{Base: 4, Next: 3, Wait: texts(6)}, "a"), api.Wind{Base: 4, Next: 8, L: []api.Seg{{Num: 3, B: "1"}, {Num: 4, B: "2"}, {Num: 5, B: "3"}, {Num: 6, B: "4"}, {Num: 7, B: "5"}}, Wait: []string{"6", "a"}}},
		"Next far above Base":          {Send(api.Wind{Base: 3, Next: 90}, "a"), api.Wind{Base: 3, Next: 90, Wait: []string{"a"}}},
		"told far into them":           {Told(api.Wind{Base: 3, Next: 90, Wait: texts(6)}, 88), api.Wind{Base: 89, Next: 93, L: []api.Seg{{Num: 90, B: "1"}, {Num: 91, B: "2"}, {Num: 92, B: "3"}}, Wait: texts(6)[3:]}},
		"no order of L":                {Told(api.Wind{Base: 1, Next: 9, L: l}, 4), api.Wind{Base: 5, Next: 9, L: []api.Seg{l[0], l[2]}}},
		"it waits though there's room": {Told(api.Wind{Base: 2, Next: 3, L: l, Wait: texts(2)}, 1), api.Wind{Base: 2, Next: 3, L: l, Wait: texts(2)}},
		"the greatest Next":            {Send(api.Wind{Base: math.MaxInt, Next: math.MaxInt}, "a"), api.Wind{Base: math.MaxInt, Next: math.MaxInt, Wait: []string{"a"}}},
		"up to the greatest Next":      {Told(api.Wind{Base: math.MaxInt - 2, Next: math.MaxInt - 1, Wait: texts(3)}, math.MaxInt-2), api.Wind{Base: math.MaxInt - 1, Next: math.MaxInt, L: []api.Seg{{Num: math.MaxInt - 1, B: "1"}}, Wait: []string{"2", "3"}}},
		"the two ends":                 {Send(api.Wind{Base: math.MinInt, Next: math.MaxInt - 1}, "a"), api.Wind{Base: math.MinInt, Next: math.MaxInt - 1, Wait: []string{"a"}}},
		"the two ends, turned":         {Send(api.Wind{Base: math.MaxInt, Next: math.MinInt}, "a"), api.Wind{Base: math.MaxInt, Next: math.MinInt + 1, L: []api.Seg{{Num: math.MinInt, B: "a"}}}},
		"all from the one end":         {Told(api.Wind{Base: math.MinInt, Next: math.MaxInt, L: l, Wait: texts(1)}, math.MaxInt-1), api.Wind{Base: math.MaxInt, Next: math.MaxInt, Wait: texts(1)}},
	} {
		want(t, what, x.got, x.want)
	}
}
