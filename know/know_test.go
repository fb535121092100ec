package know

import (
	"errors"
	"math"
	"slices"
	"testing"

	"cardamom/api"
)

func same(a, b api.Know) bool { return a.Up == b.Up && slices.Equal(a.More, b.More) }

// steps is count numbers from first on, each by gap above the last.
func steps(first, gap, count int) []int {
	out := make([]int, count)
	for i := range out {
		out[i] = first + i*gap
	}
	return out
}

// small is how far the sets reach that are gone through one and all.
const small = 7

// formOf is the form of a set, by its definition: bit n - 1 of set stands for n.
func formOf(set int) api.Know {
	var k api.Know
	for set>>k.Up&1 == 1 {
		k.Up++
	}
	for n := k.Up + 1; n <= small; n++ {
		if set>>(n-1)&1 == 1 {
			k.More = append(k.More, n)
		}
	}
	return k
}

func TestMayAtEachLimit(t *testing.T) {
	for _, x := range []struct {
		k    api.Know
		want bool
	}{
		{api.Know{}, true},
		{api.Know{More: []int{}}, true},
		{api.Know{Up: 3, More: []int{5, 6, 9}}, true},
		{api.Know{Up: -1}, false},
		{api.Know{Up: 1}, true},
		{api.Know{Up: 999999}, true},
		{api.Know{Up: 1000000}, true},
		{api.Know{Up: 1000001}, false},
		{api.Know{More: []int{1}}, false},
		{api.Know{More: []int{2}}, true},
		{api.Know{Up: 4, More: []int{3}}, false},
		{api.Know{Up: 4, More: []int{4}}, false},
		{api.Know{Up: 4, More: []int{5}}, false},
		{api.Know{Up: 4, More: []int{6}}, true},
		{api.Know{Up: 4, More: []int{6, 5}}, false},
		{api.Know{Up: 4, More: []int{6, 6}}, false},
		{api.Know{Up: 4, More: []int{6, 7}}, true},
		{api.Know{Up: 4, More: []int{6, 8, 7}}, false},
		{api.Know{Up: 4, More: []int{6, 8, 8}}, false},
		{api.Know{Up: 4, More: []int{6, 8, 9}}, true},
		{api.Know{More: []int{999999}}, true},
		{api.Know{More: []int{1000000}}, true},
		{api.Know{More: []int{1000001}}, false},
		{api.Know{More: []int{5, 1000000, 1000001}}, false},
		{api.Know{Up: 999998, More: []int{1000000}}, true},
		{api.Know{Up: 999999, More: []int{1000000}}, false},
		{api.Know{Up: 999999, More: []int{1000001}}, false},
		{api.Know{Up: 1000000, More: []int{1000002}}, false},
		{api.Know{More: steps(2, 1, 59)}, true},
		{api.Know{More: steps(2, 1, 60)}, true},
		{api.Know{More: steps(2, 1, 61)}, false},
		{api.Know{Up: 5, More: steps(999941, 1, 60)}, true},
		{api.Know{Up: 5, More: steps(999942, 1, 60)}, false},
	} {
		if got := May(x.k); got != x.want {
			t.Errorf("May(%v) = %v", x.k, got)
		}
	}
}

func TestMayOfWrongInputs(t *testing.T) {
	for _, n := range []int{math.MinInt, math.MinInt + 1, -1000000, -1, 1000001, math.MaxInt - 1, math.MaxInt} {
		for _, k := range []api.Know{{Up: n}, {Up: n, More: []int{n}}, {Up: n, More: []int{9}}, {More: []int{n}}, {Up: 2, More: []int{5, n}}, {Up: 2, More: []int{n, 5}}} {
			if May(k) {
				t.Errorf("May(%v) = true", k)
			}
		}
	}
}

func TestFaultIsWrapped(t *testing.T) {
	for _, x := range []struct {
		k    api.Know
		part string
	}{
		{api.Know{Up: -1, More: steps(1, 1, 61)}, "Up"},
		{api.Know{More: steps(1, 1, 61)}, "so many of More"},
		{api.Know{Up: 1, More: []int{2, 1000001}}, "the order of More"},
		{api.Know{More: []int{1000001, 1}}, "a number"},
	} {
		err := check(x.k)
		var f fault
		if !errors.Is(err, errMayNot) || !errors.As(err, &f) || f.part != x.part {
			t.Errorf("check(%v) = %v", x.k, err)
		}
	}
	if err := check(api.Know{Up: 1, More: []int{3}}); err != nil {
		t.Error(err)
	}
	if got := (fault{"Up"}).Error(); got != "know: it may not be: Up" {
		t.Error(got)
	}
}

func TestHas(t *testing.T) {
	for _, x := range []struct {
		k    api.Know
		have []int
		not  []int
	}{
		{api.Know{}, nil, []int{math.MinInt, -1, 0, 1, 2, math.MaxInt}},
		{api.Know{Up: 3, More: []int{5, 6, 9}}, []int{1, 2, 3, 5, 6, 9}, []int{math.MinInt, -3, -1, 0, 4, 7, 8, 10, math.MaxInt}},
		{api.Know{More: []int{2}}, []int{2}, []int{0, 1, 3}},
		{api.Know{Up: 1000000}, []int{1, 2, 999999, 1000000}, []int{-1, 0, 1000001}},
		{api.Know{Up: 999998, More: []int{1000000}}, []int{1, 999998, 1000000}, []int{0, 999999, 1000001}},
		{api.Know{More: steps(3, 2, 60)}, steps(3, 2, 60), append(steps(2, 2, 61), 1, 123)},
	} {
		for _, n := range x.have {
			if !Has(x.k, n) {
				t.Errorf("Has(%v, %d) = false", x.k, n)
			}
		}
		for _, n := range x.not {
			if Has(x.k, n) {
				t.Errorf("Has(%v, %d) = true", x.k, n)
			}
		}
	}
}

func TestAdd(t *testing.T) {
	k := api.Know{Up: 3, More: []int{5, 6, 9}}
	for _, x := range []struct {
		k    api.Know
		n    int
		want api.Know
	}{
		{api.Know{}, 1, api.Know{Up: 1}},
		{api.Know{}, 2, api.Know{More: []int{2}}},
		{api.Know{More: []int{2}}, 1, api.Know{Up: 2}},
		{k, 1, k},
		{k, 3, k},
		{k, 4, api.Know{Up: 6, More: []int{9}}},
		{k, 5, k},
		{k, 7, api.Know{Up: 3, More: []int{5, 6, 7, 9}}},
		{k, 8, api.Know{Up: 3, More: []int{5, 6, 8, 9}}},
		{k, 9, k},
		{k, 10, api.Know{Up: 3, More: []int{5, 6, 9, 10}}},
		{k, 999999, api.Know{Up: 3, More: []int{5, 6, 9, 999999}}},
		{k, 1000000, api.Know{Up: 3, More: []int{5, 6, 9, 1000000}}},
		{api.Know{Up: 999999}, 1000000, api.Know{Up: 1000000}},
		{api.Know{Up: 999998, More: []int{1000000}}, 999999, api.Know{Up: 1000000}},
		{api.Know{Up: 1000000}, 1000000, api.Know{Up: 1000000}},
	} {
		if got := Add(x.k, x.n); !same(got, x.want) || !May(got) {
			t.Errorf("Add(%v, %d) = %v", x.k, x.n, got)
		}
	}
}

func TestAddOfWrongNumberAddsNothing(t *testing.T) {
	for _, k := range []api.Know{{}, {Up: 3, More: []int{5, 6, 9}}, {Up: 1000000}, {Up: 999998, More: []int{1000000}}, {More: steps(2, 1, 60)}} {
		for _, n := range []int{math.MinInt, -1000000, -1, 0, 1000001, math.MaxInt} {
			if got := Add(k, n); !same(got, k) {
				t.Errorf("Add(%v, %d) = %v", k, n, got)
			}
		}
	}
}

func TestAddAtMostMore(t *testing.T) {
	for _, x := range []struct {
		k    api.Know
		n    int
		want api.Know
	}{
		{api.Know{More: steps(3, 1, 59)}, 100, api.Know{More: append(steps(3, 1, 59), 100)}},
		{api.Know{More: steps(3, 1, 60)}, 3, api.Know{More: steps(3, 1, 60)}},
		{api.Know{More: steps(3, 1, 60)}, 62, api.Know{More: steps(3, 1, 60)}},
		{api.Know{More: steps(3, 1, 60)}, 1, api.Know{Up: 1, More: steps(3, 1, 60)}},
		{api.Know{Up: 1, More: steps(3, 1, 60)}, 2, api.Know{Up: 62}},
		{api.Know{Up: 1, More: steps(3, 2, 60)}, 2, api.Know{Up: 3, More: steps(5, 2, 59)}},
	} {
		if got := Add(x.k, x.n); !same(got, x.want) || !May(got) {
			t.Errorf("Add(%v, %d) = %v", x.k, x.n, got)
		}
	}
}

func TestBothAtLimits(t *testing.T) {
	for _, x := range []struct{ a, b, want api.Know }{
		{api.Know{}, api.Know{}, api.Know{}},
		{api.Know{Up: 1000000}, api.Know{More: []int{1000000}}, api.Know{Up: 1000000}},
		{api.Know{Up: 999999}, api.Know{More: []int{1000000}}, api.Know{Up: 1000000}},
		{api.Know{Up: 999998}, api.Know{More: []int{1000000}}, api.Know{Up: 999998, More: []int{1000000}}},
		{api.Know{More: steps(2, 1, 60)}, api.Know{More: steps(2, 1, 60)}, api.Know{More: steps(2, 1, 60)}},
		{api.Know{More: steps(2, 1, 30)}, api.Know{More: steps(90, 1, 30)}, api.Know{More: append(steps(2, 1, 30), steps(90, 1, 30)...)}},
		// Merged there are 120, but they close up.
		{api.Know{More: steps(2, 2, 60)}, api.Know{Up: 1, More: steps(3, 2, 60)}, api.Know{Up: 121}},
		{api.Know{More: steps(2, 1, 60)}, api.Know{Up: 50, More: steps(70, 1, 60)}, api.Know{Up: 61, More: steps(70, 1, 60)}},
	} {
		if got, back := Both(x.a, x.b), Both(x.b, x.a); !same(got, x.want) || !same(back, x.want) || !May(got) {
			t.Errorf("Both(%v, %v) = %v, turned %v", x.a, x.b, got, back)
		}
	}
}

func TestWithinAtLimits(t *testing.T) {
	full := api.Know{Up: 1000000}
	for _, x := range []struct {
		a, b       api.Know
		want, back bool
	}{
		{api.Know{}, api.Know{}, true, true},
		{api.Know{}, full, true, false},
		{api.Know{More: []int{1000000}}, full, true, false},
		{api.Know{Up: 999999}, full, true, false},
		{api.Know{Up: 999998, More: []int{1000000}}, api.Know{Up: 999999}, false, false},
		{api.Know{More: steps(2, 1, 59)}, api.Know{More: steps(2, 1, 60)}, true, false},
		{api.Know{More: steps(2, 1, 60)}, api.Know{More: steps(3, 1, 60)}, false, false},
		{api.Know{More: steps(2, 1, 60)}, api.Know{Up: 61}, true, false},
		{api.Know{More: steps(2, 1, 60)}, api.Know{Up: 60}, false, false},
	} {
		if got, back := Within(x.a, x.b), Within(x.b, x.a); got != x.want || back != x.back {
			t.Errorf("Within(%v, %v) = %v, turned %v", x.a, x.b, got, back)
		}
	}
}

func TestCountAtLimits(t *testing.T) {
	for _, x := range []struct {
		k    api.Know
		want int
	}{
		{api.Know{}, 0},
		{api.Know{Up: 1}, 1},
		{api.Know{More: []int{1000000}}, 1},
		{api.Know{Up: 3, More: []int{5, 6, 9}}, 6},
		{api.Know{Up: 7, More: steps(9, 3, 60)}, 67},
		{api.Know{Up: 1000000}, 1000000},
	} {
		if got := Count(x.k); got != x.want {
			t.Errorf("Count(%v) = %d", x.k, got)
		}
	}
}

func TestEachSmallSet(t *testing.T) {
	for set := range 1 << small {
		k, count := formOf(set), 0
		if !May(k) {
			t.Fatalf("May(%v) = false", k)
		}
		for n := 1; n <= small; n++ {
			bit := set >> (n - 1) & 1
			count += bit
			if Has(k, n) != (bit == 1) {
				t.Fatalf("Has(%v, %d)", k, n)
			}
			if got := Add(k, n); !same(got, formOf(set|1<<(n-1))) {
				t.Fatalf("Add(%v, %d) = %v", k, n, got)
			}
		}
		if Count(k) != count {
			t.Fatalf("Count(%v) = %d", k, Count(k))
		}
	}
}

func TestEachTwoSmallSets(t *testing.T) {
	for one := range 1 << small {
		for two := range 1 << small {
			a, b := formOf(one), formOf(two)
			if got := Both(a, b); !same(got, formOf(one|two)) {
				t.Fatalf("Both(%v, %v) = %v", a, b, got)
			}
			if got := Within(a, b); got != (one&^two == 0) {
				t.Fatalf("Within(%v, %v) = %v", a, b, got)
			}
		}
	}
}

// All lists of numbers up to small with all Ups: as many of them may be as there are sets.
func TestOneFormForEachSet(t *testing.T) {
	forms := 0
	for up := range small + 1 {
		for set := range 1 << small {
			k := api.Know{Up: up}
			for n := 1; n <= small; n++ {
				if set>>(n-1)&1 == 1 {
					k.More = append(k.More, n)
				}
			}
			if May(k) {
				forms++
			}
		}
	}
	if forms != 1<<small {
		t.Errorf("%d forms", forms)
	}
}

func TestOrderOfAddIsNotSeen(t *testing.T) {
	var k api.Know
	for i := range 60 {
		k = Add(k, 2+i*37%60)
		if !May(k) || Count(k) != i+1 {
			t.Fatalf("%v", k)
		}
	}
	if !same(k, api.Know{More: steps(2, 1, 60)}) {
		t.Errorf("%v", k)
	}
	if k = Add(k, 1); !same(k, api.Know{Up: 61}) {
		t.Errorf("%v", k)
	}
}

// roomy is a list with spare room behind it, filled with -7.
func roomy(l ...int) []int {
	room := append(slices.Clone(l), -7, -7, -7, -7)
	return room[:len(l):len(room)]
}

func TestNothingHandedInIsChangedOrKept(t *testing.T) {
	for _, lists := range [][2][]int{{{5, 6, 9}, {4, 7}}, {{5, 6, 9}, {}}, {{}, {4, 7}}, {{5, 6, 9}, {5, 6, 9}}, {{5}, {7}}} {
		a, b := api.Know{Up: 3, More: roomy(lists[0]...)}, api.Know{Up: 2, More: roomy(lists[1]...)}
		answers := []api.Know{Both(a, b), Both(b, a), Add(a, 0), Add(a, 2), Add(a, 5), Add(a, 4), Add(a, 12), Add(a, 1000001)}
		Within(a, b)
		Has(a, 5)
		for i, k := range answers {
			for j := range k.More[:cap(k.More)] {
				k.More[:cap(k.More)][j] = -9 - i
			}
		}
		for i, k := range []api.Know{a, b} {
			if !slices.Equal(k.More[:cap(k.More)], append(slices.Clone(lists[i]), -7, -7, -7, -7)) {
				t.Errorf("changed: %v", k.More[:cap(k.More)])
			}
		}
		for i, k := range answers {
			for _, n := range k.More {
				if n != -9-i {
					t.Errorf("answer %d shares memory: %v", i, k)
				}
			}
		}
	}
}

func TestNilAndEmptyAreOne(t *testing.T) {
	for _, b := range []api.Know{{}, {Up: 2}, {More: []int{4}}} {
		x, y := api.Know{Up: 3}, api.Know{Up: 3, More: []int{}}
		if May(x) != May(y) || !same(Both(x, b), Both(y, b)) || Within(x, b) != Within(y, b) || Within(b, x) != Within(b, y) || !same(Add(x, 5), Add(y, 5)) || Count(x) != Count(y) || Has(x, 3) != Has(y, 3) {
			t.Errorf("with %v", b)
		}
	}
}

// What may not be is promised nothing but an end without a panic, and that it stays as it was.
func TestWrongInputsEndUnchanged(t *testing.T) {
	numbers := []int{math.MinInt, -1, 0, 1, 2, 1000001, math.MaxInt}
	lists := [][]int{nil, {math.MaxInt, math.MinInt}, {3, 3, 3}, {9, 7, 5}, {0, -1}, {math.MinInt, math.MaxInt}, steps(2, 2, 61), steps(500000, -1, 300000)}
	var all []api.Know
	for _, up := range numbers {
		for _, l := range lists {
			all = append(all, api.Know{Up: up, More: l})
		}
	}
	for _, a := range all {
		May(a)
		Count(a)
		for _, n := range numbers {
			Has(a, n)
			Add(a, n)
		}
	}
	for _, a := range all[:len(lists)*3] {
		for _, b := range all[len(lists)*4:] {
			Both(a, b)
			Within(a, b)
			Within(b, a)
		}
	}
	if !slices.Equal(lists[7], steps(500000, -1, 300000)) || !slices.Equal(lists[6], steps(2, 2, 61)) || !slices.Equal(lists[3], []int{9, 7, 5}) {
		t.Error("a list was changed")
	}
}
