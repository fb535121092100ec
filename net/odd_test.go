package net

import (
	"math"
	"testing"

	"cardamom/api"
)

// ends is numbers at either end of what there is, and small ones.
func ends() []int {
	return []int{math.MinInt, math.MinInt + 1, math.MinInt32 - 1, math.MinInt32, -257, -256, -255, -2, -1, 0, 1, 2, 19, 20, 21, 255, 256, 257, 511, 512, math.MaxInt32, math.MaxUint32, math.MaxInt - 256, math.MaxInt - 255, math.MaxInt - 1, math.MaxInt}
}

// oddLists is lists that these calls never made: more than MaxFly, empty texts that are Turned, From and To that nobody has.
func oddLists() [][]api.Gram {
	odd := []api.Gram{turned(""), {From: math.MinInt, To: math.MaxInt, B: "\xff"}, {From: -1, B: "abc", Turned: true}, {}}
	return [][]api.Gram{nil, odd, grams(19), grams(20), grams(21), grams(22), grams(40), join(grams(300), odd), make([]api.Gram, 5000)}
}

// TestOddCalls: no call fails, whatever it is handed, and what is told is one of the few things that it may be.
func TestOddCalls(t *testing.T) {
	for _, l := range oddLists() {
		sent, ok := Send(l, gram("new"))
		if len(l) < api.MaxFly {
			want(t, "Send", sent, ok, join(l, []api.Gram{gram("new")}), true)
		} else {
			want(t, "Send", sent, ok, l, false)
		}
		for _, i := range append(ends(), len(l)-1, len(l), len(l)+1) {
			there := 0 <= i && i < len(l)
			rest, g := l, api.Gram{}
			if there {
				rest, g = join(l[:i], l[i+1:]), l[i]
			}
			left, came, ok := Comes(l, i)
			want(t, "Comes", left, ok, rest, there)
			if came != g {
				t.Fatalf("%+v came, want %+v", came, g)
			}
			left, ok = Lost(l, i)
			want(t, "Lost", left, ok, rest, there)
			twice, ok := Twice(l, i)
			if there && len(l) < api.MaxFly {
				want(t, "Twice", twice, ok, join(l, l[i:i+1]), true)
			} else {
				want(t, "Twice", twice, ok, l, false)
			}
			if len(l) < 1000 {
				oddTurns(t, l, i)
			}
		}
	}
}

// oddTurns is Turned of number i, by each end of what to can be.
func oddTurns(t *testing.T, l []api.Gram, i int) {
	t.Helper()
	for _, to := range ends() {
		wanted := join(l)
		ok := 0 <= i && i < len(l) && !l[i].Turned
		if ok && l[i].B != "" && to > 0 && to%256 != 0 {
			wanted[i].B, wanted[i].Turned = turnOne(l[i].B, to/256%len(l[i].B), to%256), true
		}
		got, gotOK := Turned(l, i, to)
		want(t, "Turned", got, gotOK, wanted, ok)
	}
}
