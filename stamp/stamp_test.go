package stamp

import (
	"errors"
	"math"
	"testing"

	"cardamom/api"
)

func TestMayAtEachLimit(t *testing.T) {
	for _, x := range []struct {
		s    api.Stamp
		want bool
	}{
		{api.Stamp{L: 7, R: 2, N: 3}, true},
		{api.Stamp{L: 0, R: 1, N: 1}, false},
		{api.Stamp{L: 1, R: 1, N: 1}, true},
		{api.Stamp{L: 5000, R: 1, N: 1}, true},
		{api.Stamp{L: 5001, R: 1, N: 1}, false},
		{api.Stamp{L: 9, R: 0, N: 1}, false},
		{api.Stamp{L: 9, R: 1, N: 1}, true},
		{api.Stamp{L: 9, R: 5, N: 1}, true},
		{api.Stamp{L: 9, R: 6, N: 1}, false},
		{api.Stamp{L: 9, R: 1, N: 0}, false},
		{api.Stamp{L: 9, R: 1, N: 8}, true},
		{api.Stamp{L: 9, R: 1, N: 9}, true},
		{api.Stamp{L: 9, R: 1, N: 10}, false},
		{api.Stamp{L: 999, R: 1, N: 1000}, false},
		{api.Stamp{L: 1000, R: 1, N: 1000}, true},
		{api.Stamp{L: 1001, R: 1, N: 1000}, true},
		{api.Stamp{L: 1001, R: 1, N: 1001}, false},
		{api.Stamp{L: 5000, R: 5, N: 1000}, true},
		{api.Stamp{L: 5000, R: 5, N: 1001}, false},
	} {
		if got := May(x.s); got != x.want {
			t.Errorf("May(%v) = %v", x.s, got)
		}
	}
}

func TestMayOfWrongInputs(t *testing.T) {
	good := api.Stamp{L: 9, R: 3, N: 4}
	if !May(good) {
		t.Fatalf("May(%v) = false", good)
	}
	for _, n := range []int{math.MinInt, -5000, -1, 0, 5001, math.MaxInt} {
		for _, s := range []api.Stamp{{L: n, R: 3, N: 4}, {L: 9, R: n, N: 4}, {L: 9, R: 3, N: n}, {L: n, R: n, N: n}} {
			if May(s) {
				t.Errorf("May(%v) = true", s)
			}
		}
	}
}

func TestFaultIsWrapped(t *testing.T) {
	for _, x := range []struct {
		s    api.Stamp
		part string
	}{
		{api.Stamp{}, "L"},
		{api.Stamp{L: 5001, R: 6, N: 1001}, "L"},
		{api.Stamp{L: 1, R: 6, N: 2}, "R"},
		{api.Stamp{L: 1, R: 5, N: 2}, "N"},
	} {
		err := check(x.s)
		var f fault
		if !errors.Is(err, errMayNot) || !errors.As(err, &f) || f.part != x.part {
			t.Errorf("check(%v) = %v", x.s, err)
		}
	}
	if err := check(api.Stamp{L: 1, R: 1, N: 1}); err != nil {
		t.Error(err)
	}
	if got := (fault{"R"}).Error(); got != "stamp: it may not be: R" {
		t.Error(got)
	}
}

// row is of stamps in order, of such as may not be too: all triples of some numbers, L first, then R, then N.
func row() []api.Stamp {
	numbers := []int{math.MinInt, -1, 0, 1, 2, 5, 5000, math.MaxInt}
	var out []api.Stamp
	for _, l := range numbers {
		for _, r := range numbers {
			for _, n := range numbers {
				out = append(out, api.Stamp{L: l, R: r, N: n})
			}
		}
	}
	return out
}

func TestCompareIsByTimeThenReplicaThenNumber(t *testing.T) {
	stamps := row()
	for i, a := range stamps {
		for k, b := range stamps {
			want := 0
			if i < k {
				want = -1
			} else if i > k {
				want = 1
			}
			if got := Compare(a, b); got != want {
				t.Fatalf("Compare(%v, %v) = %d, not %d", a, b, got, want)
			}
		}
	}
}

func TestNextAtEachLimit(t *testing.T) {
	for _, x := range []struct {
		l, r, n int
		want    api.Stamp
		ok      bool
	}{
		{4, 2, 1, api.Stamp{L: 5, R: 2, N: 2}, true},
		{0, 1, 0, api.Stamp{L: 1, R: 1, N: 1}, true},
		{-1, 1, 0, api.Stamp{}, false},
		{0, 1, -1, api.Stamp{}, false},
		{4999, 1, 3, api.Stamp{L: 5000, R: 1, N: 4}, true},
		{5000, 1, 3, api.Stamp{}, false},
		{7, 0, 3, api.Stamp{}, false},
		{7, 1, 3, api.Stamp{L: 8, R: 1, N: 4}, true},
		{7, 5, 3, api.Stamp{L: 8, R: 5, N: 4}, true},
		{7, 6, 3, api.Stamp{}, false},
		{7, 1, 7, api.Stamp{L: 8, R: 1, N: 8}, true},
		{7, 1, 8, api.Stamp{}, false},
		{2000, 1, 999, api.Stamp{L: 2001, R: 1, N: 1000}, true},
		{2000, 1, 1000, api.Stamp{}, false},
		{4999, 5, 999, api.Stamp{L: 5000, R: 5, N: 1000}, true},
	} {
		if got, ok := Next(x.l, x.r, x.n); got != x.want || ok != x.ok {
			t.Errorf("Next(%d, %d, %d) = %v, %v", x.l, x.r, x.n, got, ok)
		}
	}
}

func TestNextOfWrongInputs(t *testing.T) {
	for _, n := range []int{math.MinInt, math.MinInt + 1, -2, -1, 5000, math.MaxInt - 1, math.MaxInt} {
		for _, x := range [][3]int{{n, 3, 4}, {9, n, 4}, {9, 3, n}, {n, n, n}} {
			if got, ok := Next(x[0], x[1], x[2]); ok || got != (api.Stamp{}) {
				t.Errorf("Next(%v) = %v, %v", x, got, ok)
			}
		}
	}
}

func TestNextIsBehindAllThatWasSeen(t *testing.T) {
	for l := 1; l <= 12; l++ {
		for n := 0; n <= l; n++ {
			next, ok := Next(l, 1, n)
			if !ok || !May(next) {
				t.Fatalf("Next(%d, 1, %d) = %v, %v", l, n, next, ok)
			}
			for r := 1; r <= api.MaxRepl; r++ {
				for k := 1; k <= l; k++ {
					s := api.Stamp{L: l, R: r, N: k}
					if Compare(next, s) != 1 {
						t.Fatalf("%v is not behind %v", next, s)
					}
				}
			}
		}
	}
}
