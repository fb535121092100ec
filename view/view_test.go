package view

import (
	"math"
	"slices"
	"strings"
	"testing"
	"unsafe"

	"cardamom/api"
)

// head is of an item at time l.
func head(item, l int) api.Head {
	return api.Head{Item: item, S: api.Stamp{L: l, R: 1, N: 1}}
}

func heads(l ...api.Head) []api.Head { return l }

func row(l ...api.View) []api.View { return l }

func of(r, rev int, filter string, seen []api.Head, epochs ...int) api.View {
	return api.View{R: r, Rev: rev, Filter: filter, Seen: seen, Epochs: epochs}
}

// some is a view that may be, of one of three.
func some() api.View {
	return of(2, 7, "^ab&!@1=5", heads(head(2, 4), head(5, 9)), 3, 0, 8)
}

// with is some view, changed.
func with(change func(v *api.View)) api.View {
	v := some()
	change(&v)
	return v
}

// alike is apart from Same, so that a fault there is not hidden here.
func alike(a, b api.View) bool {
	return a.R == b.R && a.Rev == b.Rev && a.Filter == b.Filter && slices.Equal(a.Seen, b.Seen) && slices.Equal(a.Epochs, b.Epochs)
}

func wantMay(t *testing.T, v api.View, size int, want bool) {
	t.Helper()
	if got := May(v, size); got != want {
		t.Errorf("May(%v, %d) = %v", v, size, got)
	}
}

func TestMay(t *testing.T) {
	wantMay(t, some(), 3, true)
	wantMay(t, of(1, 1, "*", nil, 0), 1, true)
	wantMay(t, of(5, 1000000, "@0=0|@3:0-99", heads(head(1, 1), head(2, 2), head(3, 3), head(4, 4), head(5, 5), head(6, 5000)), 0, 1, 2, 3, 1000000), 5, true)
	wantMay(t, api.View{R: 1}, 1, true)
	wantMay(t, api.View{R: 5}, 5, true)
	wantMay(t, api.View{}, 3, false)
}

// Each replica of each size, with a state and without.
func TestMayOfEachReplicaAndSize(t *testing.T) {
	for size := -3; size <= 8; size++ {
		for r := -3; r <= 10; r++ {
			want := slices.Contains([]int{1, 2, 3, 4, 5, 6, 7, 8}[:max(size, 0)], r)
			wantMay(t, api.View{R: r}, size, want)
			wantMay(t, of(r, 1, "*", nil, make([]int, max(size, 0))...), size, want)
		}
	}
}

func TestMayOfEachRev(t *testing.T) {
	for _, x := range []struct {
		rev  int
		want bool
	}{
		{math.MinInt, false}, {-1000000, false}, {-1, false}, {1, true}, {2, true}, {1000, true}, {1001, true}, {999999, true}, {1000000, true}, {1000001, false}, {math.MaxInt, false},
	} {
		wantMay(t, with(func(v *api.View) { v.Rev = x.rev }), 3, x.want)
	}
	for _, rev := range []int{math.MinInt, -1, 1, 1000000, 1000001, math.MaxInt} {
		// Of a state there is more than its number.
		wantMay(t, api.View{R: 2, Rev: rev}, 3, false)
	}
}

// Of what nothing is known, nothing is told.
func TestMayOfRevNought(t *testing.T) {
	wantMay(t, api.View{R: 2}, 3, true)
	wantMay(t, api.View{R: 2, Seen: heads(), Epochs: []int{}}, 3, true)
	for _, v := range []api.View{
		{Filter: "*"}, {Filter: " "}, {Filter: "\x00"}, {Filter: "@"},
		{Seen: heads(head(1, 1))}, {Seen: make([]api.Head, 1)},
		{Epochs: []int{0}}, {Epochs: []int{0, 0, 0}}, {Epochs: []int{1, 2, 3}},
		{Filter: "*", Epochs: []int{0, 0, 0}}, {Filter: "*", Seen: heads(head(1, 1)), Epochs: []int{0, 0, 0}},
	} {
		v.R = 2
		wantMay(t, v, 3, false)
	}
	wantMay(t, with(func(v *api.View) { v.Rev = 0 }), 3, false)
}

func TestMayOfEachFilter(t *testing.T) {
	nots := strings.Repeat("!", api.MaxDeep-1)
	for _, x := range []struct {
		text string
		want bool
	}{
		{"*", true}, {" * ", true}, {"^a", true}, {"@3=99", true}, {"@0:1-1", true}, {" ^a & (*)", true}, {"!*|*&*", true}, {nots + "*", true},
		{strings.Repeat(" ", api.MaxText-1) + "*", true},
		{"", false}, {" ", false}, {"@", false}, {"^", false}, {"* *", false}, {"(*", false}, {"*)", false}, {"@4=1", false}, {"@1=100", false}, {"@1:2-1", false},
		{"^abcdefg", false}, {"^A", false}, {"*&", false}, {"!" + nots + "*", false}, {strings.Repeat(" ", api.MaxText) + "*", false},
		{"\x00", false}, {"*\x00", false}, {"\xff\xfe", false}, {"^ä", false}, {strings.Repeat("(", 1<<20), false}, {strings.Repeat("*", 1<<20), false},
	} {
		if got := May(with(func(v *api.View) { v.Filter = x.text }), 3); got != x.want {
			t.Errorf("the text %.90q: May = %v", x.text, got)
		}
	}
}

func TestMayOfEachSeen(t *testing.T) {
	for _, x := range []struct {
		seen []api.Head
		want bool
	}{
		{nil, true}, {heads(), true}, {heads(head(1, 1)), true}, {heads(head(6, 5000)), true}, {heads(head(1, 9), head(2, 1), head(6, 3)), true},
		{heads(head(0, 1)), false}, {heads(head(7, 1)), false}, {heads(head(-1, 1)), false}, {heads(head(3, 0)), false}, {heads(head(3, 5001)), false},
		{heads(head(2, 1), head(1, 1)), false}, {heads(head(2, 1), head(2, 2)), false}, {heads(head(1, 1), head(2, 0)), false}, {make([]api.Head, 1), false},
		{heads(api.Head{Item: 1, S: api.Stamp{L: 3, R: 6, N: 1}}), false}, {heads(api.Head{Item: 1, S: api.Stamp{L: 3, R: 1, N: 4}}), false},
	} {
		wantMay(t, with(func(v *api.View) { v.Seen = x.seen }), 3, x.want)
	}
}

func TestMayOfHowManyEpochs(t *testing.T) {
	for size := 2; size <= 8; size++ {
		for n := range size + 3 {
			wantMay(t, with(func(v *api.View) { v.Epochs = make([]int, n) }), size, n == size)
		}
	}
	wantMay(t, with(func(v *api.View) { v.Epochs = nil }), 3, false)
}

// A number at each place of Epochs is asked for.
func TestMayOfEachOfEpochs(t *testing.T) {
	for size := 2; size <= 5; size++ {
		for i := range size {
			for _, x := range []struct {
				n    int
				want bool
			}{
				{math.MinInt, false}, {-1000000, false}, {-1, false}, {0, true}, {1, true}, {1001, true}, {999999, true}, {1000000, true}, {1000001, false}, {math.MaxInt, false},
			} {
				wantMay(t, with(func(v *api.View) {
					v.Epochs = make([]int, size)
					v.Epochs[i] = x.n
				}), size, x.want)
			}
		}
	}
}

// What its parts may be does not hang on how often its own replica's filter was set, or on who has written what it has seen.
func TestMayOfPartsThatDoNotFitEachOther(t *testing.T) {
	wantMay(t, of(1, 1, "*", nil, 1000000, 0), 2, true)
	wantMay(t, of(1, 1000000, "*", nil, 0, 0), 2, true)
	wantMay(t, of(1, 1, "*", heads(api.Head{Item: 1, S: api.Stamp{L: 9, R: 5, N: 9}}), 0, 0), 2, true)
}

func TestMayOfWrongInputs(t *testing.T) {
	odd := []int{math.MinInt, math.MinInt + 1, -1, 0, math.MaxInt - 1, math.MaxInt}
	for _, size := range odd {
		for _, r := range odd {
			wantMay(t, api.View{R: r}, size, 1 <= r && r <= size)
			wantMay(t, of(r, 1, "*", nil, 0, 0, 0), size, false)
			wantMay(t, of(r, 1, "*", nil), size, false)
		}
	}
	if May(of(1, 1, "*", make([]api.Head, 1<<20), make([]int, 1<<20)...), 1<<20) {
		t.Error("a long row of heads may be")
	}
	if !May(of(1, 1, "*", nil, make([]int, 1<<20)...), 1<<20) {
		t.Error("a long row of epochs may not be")
	}
}

func wantMerge(t *testing.T, a, b, want []api.View) {
	t.Helper()
	if got := Merge(a, b); !slices.EqualFunc(got, want, alike) {
		t.Errorf("Merge(%v, %v) = %v", a, b, got)
	}
}

// wantBothWays is for rows of which no two views of one Rev differ.
func wantBothWays(t *testing.T, a, b, want []api.View) {
	t.Helper()
	wantMerge(t, a, b, want)
	wantMerge(t, b, a, want)
}

func TestMerge(t *testing.T) {
	a := row(of(1, 3, "^a", heads(head(1, 1)), 1, 2, 3), of(2, 5, "*", nil, 0, 7, 0), api.View{R: 3})
	b := row(of(1, 2, "^b", nil, 0, 0, 9), of(2, 6, "^c", heads(head(2, 2)), 9, 1, 1), of(3, 1, "!*", heads(head(6, 6)), 0, 0, 1))
	wantBothWays(t, a, b, row(a[0], b[1], b[2]))
	wantBothWays(t, a[:1], b[:1], a[:1])
	wantBothWays(t, a[1:2], b[1:2], b[1:2])
	wantBothWays(t, a[2:], b[2:], b[2:])
	for _, l := range [][]api.View{nil, {}, a, b, a[:1], b[1:], a[1:2]} {
		wantBothWays(t, l, l, l)
		wantBothWays(t, l, nil, l)
		wantBothWays(t, l, row(), l)
	}
}

func TestMergeOfTheSameRev(t *testing.T) {
	a := row(of(1, 3, "^a", heads(head(1, 1)), 1, 2), of(2, 9, "^a", nil, 4, 4), api.View{R: 3, Filter: "^a"})
	b := row(of(1, 3, "^b", heads(head(6, 9)), 9, 9), of(2, 9, "^b", nil, 5, 5), api.View{R: 3, Filter: "^b"})
	wantMerge(t, a, b, a)
	wantMerge(t, b, a, b)
	b[1].Rev = 10
	wantMerge(t, a, b, row(a[0], b[1], a[2]))
	wantMerge(t, b, a, b)
	b[1].Rev = 8
	wantMerge(t, a, b, a)
	wantMerge(t, b, a, row(b[0], a[1], b[2]))
}

// A row need not have a view of each replica.
func TestMergeOfRowsWithoutSome(t *testing.T) {
	a := row(of(1, 3, "^a", nil, 1), of(2, 4, "^b", nil, 2), of(4, 1, "^c", nil, 3))
	b := row(of(2, 5, "^d", nil, 4), of(3, 1, "^e", nil, 5), of(5, 1, "^f", nil, 6))
	wantBothWays(t, a, b, row(a[0], b[0], b[1], a[2], b[2]))
	wantBothWays(t, a[:1], b[1:], row(a[0], b[1], b[2]))
	wantBothWays(t, a[2:], b[:1], row(b[0], a[2]))
	wantBothWays(t, a[1:], b[:1], row(b[0], a[2]))
	wantBothWays(t, a, b[:1], row(a[0], b[0], a[2]))
}

// revs is a row as the Rev of each replica, without an order: from 1 on one more than it is; 0: there is no view.
type revs [api.MaxRepl]int

// rows is all rows of so many replicas, with Revs from 0 to most.
func rows(size, most int) (l []revs) {
	l = []revs{{}}
	for i := range size {
		var more []revs
		for _, s := range l {
			for n := range most + 2 {
				s[i] = n
				more = append(more, s)
			}
		}
		l = more
	}
	return l
}

// row has in each view whose it is, so that it is seen which of two was told.
func (s revs) row(whose string) (l []api.View) {
	for i, n := range s {
		if n > 0 {
			l = append(l, of(i+1, n-1, "^"+whose, heads(head(i+1, n)), i, n))
		}
	}
	return l
}

func TestMergeOfEachTwoRows(t *testing.T) {
	wantEachTwo(t, rows(4, 2))
	wantEachTwo(t, rows(api.MaxRepl, 1))
}

func wantEachTwo(t *testing.T, l []revs) {
	t.Helper()
	for _, a := range l {
		for _, b := range l {
			var ofA, ofB revs
			for i := range a {
				if a[i] >= b[i] {
					ofA[i] = a[i]
				} else {
					ofB[i] = b[i]
				}
			}
			want := slices.Concat(ofA.row("a"), ofB.row("b"))
			slices.SortFunc(want, func(v, w api.View) int { return v.R - w.R })
			if got := Merge(a.row("a"), b.row("b")); !slices.EqualFunc(got, want, alike) {
				t.Fatalf("Merge(%v, %v) = %v", a, b, got)
			}
		}
	}
}

// Merge does not hang on the order in which views come: one by one, from behind, or in rows that were merged themselves.
func TestMergeDoesNotHangOnTheOrder(t *testing.T) {
	state := 1
	next := func(n int) int {
		state = state * 48271 % (1<<31 - 1)
		return state / 7 % n
	}
	for range 200 {
		var came [][]api.View
		for range 2 + next(12) {
			var s revs
			for i := range s {
				s[i] = next(9)
			}
			came = append(came, s.row("q"))
		}
		var want []api.View
		for _, l := range came {
			want = Merge(want, l)
		}
		var turned, left []api.View
		for _, l := range slices.Backward(came) {
			turned, left = Merge(turned, l), Merge(l, left)
		}
		half := len(came) / 2
		var first, last []api.View
		for i, l := range came {
			if i < half {
				first = Merge(l, first)
			} else {
				last = Merge(last, l)
			}
		}
		for i, got := range [][]api.View{turned, left, Merge(first, last), Merge(last, first), Merge(want, came[half]), Merge(came[half], want), Merge(want, want)} {
			if !slices.EqualFunc(got, want, alike) {
				t.Fatalf("%d: %v, not %v", i, got, want)
			}
		}
	}
}

// By the promise's words the greater Rev is told, whatever else a view has.
func TestMergeOfViewsThatMayNotBe(t *testing.T) {
	odd := []int{math.MinInt, -1, 0, 1, 1000001, math.MaxInt}
	for i, less := range odd {
		for _, more := range odd[i+1:] {
			a, b := of(3, less, "(", heads(head(9, -9)), -1), of(3, more, "\xff", make([]api.Head, 2))
			wantBothWays(t, row(a), row(b), row(b))
			a.R, b.R = less, more
			wantBothWays(t, row(a), row(b), row(a, b))
		}
	}
}

func wantEpochs(t *testing.T, l []api.View, size int, want ...int) {
	t.Helper()
	if got := Epochs(l, size); !slices.Equal(got, want) {
		t.Errorf("Epochs(%v, %d) = %v", l, size, got)
	}
}

func TestEpochs(t *testing.T) {
	a, b, c := of(1, 1, "*", nil, 9, 0, 4), of(2, 5, "*", nil, 3, 8, 4), of(3, 2, "*", nil, 1, 2, 1000000)
	wantEpochs(t, row(a), 3, 9, 0, 4)
	wantEpochs(t, row(a, b), 3, 9, 8, 4)
	wantEpochs(t, row(b, a), 3, 9, 8, 4)
	// Of each replica another view tells the greatest.
	wantEpochs(t, row(a, b, c), 3, 9, 8, 1000000)
	wantEpochs(t, row(c, b, a), 3, 9, 8, 1000000)
	wantEpochs(t, row(b, c, a), 3, 9, 8, 1000000)
	wantEpochs(t, row(a, a, a), 3, 9, 0, 4)
	wantEpochs(t, row(api.View{R: 1}, b, api.View{R: 3}), 3, 3, 8, 4)
	// What a replica tells of itself counts no more than what others tell of it.
	wantEpochs(t, row(of(1, 9, "*", nil, 1, 1), of(2, 1, "*", nil, 6, 0)), 2, 6, 1)
	wantEpochs(t, row(of(1, 1, "*", nil, 5)), 1, 5)
}

func TestEpochsThatNoneTells(t *testing.T) {
	for _, l := range [][]api.View{nil, {}, {{R: 1}, {R: 2}}, {{R: 1, Epochs: []int{}}}, {{}}, make([]api.View, 9)} {
		for size := range 7 {
			wantEpochs(t, l, size, make([]int, size)...)
		}
	}
}

// Views may tell of less replicas than size, or of more.
func TestEpochsOfOtherSizes(t *testing.T) {
	a, b := of(1, 1, "*", nil, 4, 7), of(2, 1, "*", nil, 5, 6, 8, 2)
	for _, l := range [][]api.View{{a, b}, {b, a}} {
		wantEpochs(t, l, 0)
		wantEpochs(t, l, 1, 5)
		wantEpochs(t, l, 2, 5, 7)
		wantEpochs(t, l, 3, 5, 7, 8)
		wantEpochs(t, l, 4, 5, 7, 8, 2)
		wantEpochs(t, l, 6, 5, 7, 8, 2, 0, 0)
	}
}

// By the promise's words the greatest that is told counts; 0 stands only where none is.
func TestEpochsThatMayNotBe(t *testing.T) {
	wantEpochs(t, row(of(1, 1, "*", nil, -5)), 2, -5, 0)
	wantEpochs(t, row(of(1, 1, "*", nil, -5), of(1, 1, "*", nil, -7, -2, 3)), 4, -5, -2, 3, 0)
	wantEpochs(t, row(of(1, 1, "*", nil, -7, -2, 3), of(1, 1, "*", nil, -5)), 4, -5, -2, 3, 0)
	wantEpochs(t, row(of(1, 1, "*", nil, math.MinInt, math.MaxInt), of(1, 1, "*", nil, math.MinInt+1, math.MinInt)), 3, math.MinInt+1, math.MaxInt, 0)
}

func TestEpochsOfWrongSizes(t *testing.T) {
	for _, l := range [][]api.View{nil, {some()}, {some(), api.View{R: 1}, of(-4, -1, "(", nil, -1, math.MaxInt)}} {
		for _, size := range []int{math.MinInt, math.MinInt + 1, -1 << 40, -2, -1, 0, 1 << 28, 1 << 31, 1 << 40, 1 << 60, 1 << 61, math.MaxInt - 1, math.MaxInt} {
			if got := Epochs(l, size); len(got) != 0 {
				t.Errorf("Epochs of size %d has %d", size, len(got))
			}
		}
	}
	if got := Epochs(row(some()), 1<<20); len(got) != 1<<20 || got[2] != 8 || slices.Max(got[3:]) != 0 {
		t.Errorf("Epochs of size 1 << 20 has %d", len(got))
	}
}

// Held against the greatest of each column, as it is found without the package.
func TestEpochsOfMany(t *testing.T) {
	state := 1
	next := func(n int) int {
		state = state * 48271 % (1<<31 - 1)
		return state / 7 % n
	}
	for range 300 {
		size := next(6)
		columns := make([][]int, size)
		var l []api.View
		for r := range next(6) {
			v := api.View{R: r + 1}
			for i := range next(8) {
				v.Epochs = append(v.Epochs, next(12))
				if i < size {
					columns[i] = append(columns[i], v.Epochs[i])
				}
			}
			l = append(l, v)
		}
		var want []int
		for _, c := range columns {
			slices.Sort(c)
			if len(c) == 0 {
				c = []int{0}
			}
			want = append(want, c[len(c)-1])
		}
		wantEpochs(t, l, size, want...)
	}
}

// Each view of these differs from some view, and from each other, in one part or in more.
func others() []api.View {
	return []api.View{
		with(func(v *api.View) { v.R = 1 }),
		with(func(v *api.View) { v.R = 3 }),
		with(func(v *api.View) { v.R = -2 }),
		with(func(v *api.View) { v.Rev = 6 }),
		with(func(v *api.View) { v.Rev = 8 }),
		with(func(v *api.View) { v.R, v.Rev = 7, 2 }),
		with(func(v *api.View) { v.Filter = "" }),
		with(func(v *api.View) { v.Filter = "^ab&!@1=6" }),
		with(func(v *api.View) { v.Filter = "^ab&!@1=5 " }),
		with(func(v *api.View) { v.Filter = "^ab & !@1=5" }),
		with(func(v *api.View) { v.Filter = "(^ab)&!@1=5" }),
		with(func(v *api.View) { v.Seen = nil }),
		with(func(v *api.View) { v.Seen = v.Seen[:1] }),
		with(func(v *api.View) { v.Seen = v.Seen[1:] }),
		with(func(v *api.View) { v.Seen = append(v.Seen, head(6, 1)) }),
		with(func(v *api.View) { v.Seen[0].Item = 1 }),
		with(func(v *api.View) { v.Seen[1].Item = 6 }),
		with(func(v *api.View) { v.Seen[0].S.L++ }),
		with(func(v *api.View) { v.Seen[0].S.R++ }),
		with(func(v *api.View) { v.Seen[0].S.N++ }),
		with(func(v *api.View) { v.Seen[1].S.L++ }),
		with(func(v *api.View) { slices.Reverse(v.Seen) }),
		with(func(v *api.View) { v.Epochs = nil }),
		with(func(v *api.View) { v.Epochs = v.Epochs[:2] }),
		with(func(v *api.View) { v.Epochs = append(v.Epochs, 0) }),
		with(func(v *api.View) { v.Epochs[0]++ }),
		with(func(v *api.View) { v.Epochs[1]++ }),
		with(func(v *api.View) { v.Epochs[2]-- }),
		with(func(v *api.View) { slices.Reverse(v.Epochs) }),
		{},
		{R: 2},
		{Rev: 2},
		{Filter: "*"},
		{Seen: make([]api.Head, 1)},
		{Epochs: make([]int, 1)},
	}
}

func TestSame(t *testing.T) {
	l, again := append(others(), some()), append(others(), some())
	for i, a := range l {
		for j, b := range again {
			if got := Same(a, b); got != (i == j) {
				t.Errorf("Same(%v, %v) = %v", a, b, got)
			}
		}
	}
}

func TestSameOfNilAndEmpty(t *testing.T) {
	none := []api.View{{R: 2, Rev: 1}, {R: 2, Rev: 1, Seen: heads()}, {R: 2, Rev: 1, Epochs: []int{}}, {R: 2, Rev: 1, Seen: heads(), Epochs: []int{}}}
	for _, a := range none {
		for _, b := range none {
			if !Same(a, b) {
				t.Errorf("Same(%v, %v) = false", a, b)
			}
		}
		for _, b := range []api.View{{R: 2, Rev: 1, Seen: make([]api.Head, 1)}, {R: 2, Rev: 1, Epochs: make([]int, 1)}} {
			if Same(a, b) || Same(b, a) {
				t.Errorf("Same(%v, %v) = true", a, b)
			}
		}
	}
}

// Spare room is not part of a list.
func TestSpareRoomIsNotSeen(t *testing.T) {
	a, b := roomy(some(), 77), roomy(some(), 88)
	if !Same(a, b) || !Same(a, some()) {
		t.Error("Same sees spare room")
	}
	wantMay(t, a, 3, true)
	wantMay(t, a, 6, false)
	wantMay(t, roomy(api.View{R: 1}, 77), 3, true)
	wantEpochs(t, row(a), 6, 3, 0, 8, 0, 0, 0)
	wantMerge(t, row(a), row(b), row(some()))
}

// spare is how much room a roomy list has behind it.
const spare = 3

// roomy is v with spare room behind its lists, that has n in it.
func roomy(v api.View, n int) api.View {
	v.Seen = append(slices.Clone(v.Seen), head(n, n), head(n, n), head(n, n))[:len(v.Seen)]
	v.Epochs = append(slices.Clone(v.Epochs), n, n, n)[:len(v.Epochs)]
	return v
}

func roomyRow(l []api.View) []api.View {
	var out []api.View
	for _, v := range l {
		out = append(out, roomy(v, 77))
	}
	return append(out, roomy(some(), 78), roomy(some(), 79), roomy(some(), 80))[:len(l)]
}

// bare is v with its spare room as part of its lists.
func bare(v api.View) api.View {
	v.Seen, v.Epochs = v.Seen[:len(v.Seen)+spare], v.Epochs[:len(v.Epochs)+spare]
	return v
}

func wantRoomy(t *testing.T, l, want []api.View) {
	t.Helper()
	fresh := roomyRow(want)
	for i, v := range l[:len(l)+spare] {
		if w := fresh[:len(want)+spare][i]; !alike(v, w) || !alike(bare(v), bare(w)) {
			t.Errorf("view %d: %v is changed to %v", i, bare(w), bare(v))
		}
	}
}

// turn writes over an answer and its spare room: what it shares with an argument is seen there.
func turn(l []api.View) {
	for _, v := range l {
		for i := range v.Seen[:cap(v.Seen)] {
			v.Seen[:cap(v.Seen)][i] = head(-1, -1)
		}
		turnNumbers(v.Epochs)
	}
	for i := range l[:cap(l)] {
		l[:cap(l)][i] = api.View{R: -1, Filter: "turned"}
	}
}

func turnNumbers(l []int) {
	for i := range l[:cap(l)] {
		l[:cap(l)][i] = -1
	}
}

func TestNothingHandedInIsChangedOrKept(t *testing.T) {
	plain := [][]api.View{nil}
	for _, s := range []revs{{1, 1, 1, 1, 1}, {2, 0, 3}, {1, 4, 2}, {0, 0, 0, 2, 9}, {5}, {2, 3, 3, 2, 9}} {
		plain = append(plain, s.row("q"))
	}
	for _, pa := range plain {
		for _, pb := range plain {
			a, b := roomyRow(pa), roomyRow(pb)
			for range 2 {
				turn(Merge(a, b))
				turn(Merge(a, a))
				for size := range 7 {
					turnNumbers(Epochs(a, size))
					for _, v := range a {
						May(v, size)
					}
				}
				for _, v := range a {
					for _, w := range b {
						Same(v, w)
					}
				}
			}
			wantRoomy(t, a, pa)
			wantRoomy(t, b, pb)
		}
	}
}

// A text can't be written over: where its bytes are tells whether it is new.
func TestTextsAreNewMemory(t *testing.T) {
	a := row(of(1, 3, strings.Repeat("*", 3), nil), of(2, 3, strings.Repeat("(", 3), nil), of(4, 1, strings.Repeat(")", 3), nil))
	b := row(of(1, 2, strings.Repeat("&", 3), nil), of(2, 4, strings.Repeat("|", 3), nil), of(5, 1, strings.Repeat("!", 3), nil))
	places := map[*byte]int{}
	for _, v := range slices.Concat(a, b, Merge(a, b), Merge(b, a), Merge(a, a), Merge(a, nil), Merge(nil, b)) {
		places[unsafe.StringData(v.Filter)]++
	}
	for _, n := range places {
		if n != 1 {
			t.Errorf("a text is there %d times", n)
		}
	}
}

// Where the views of a row that is handed in share their lists, those of what is told do not.
func TestNoTwoListsOfAnAnswerShareMemory(t *testing.T) {
	seen, epochs := heads(head(1, 1), head(2, 2)), []int{4, 5}
	var a, b []api.View
	for r := range api.MaxRepl {
		a = append(a, of(r+1, 2+r%3, "*", seen, epochs...))
		b = append(b, of(r+1, 3, "*", seen[:1], epochs[:1]...))
		a[r].Epochs, b[r].Epochs = epochs, epochs[:1]
	}
	for _, l := range [][]api.View{Merge(a, b), Merge(a[:2], b[3:])} {
		for i := range l {
			turn(l[i : i+1 : i+1])
			for j, v := range l[i+1:] {
				if v.Seen[0] != head(1, 1) || v.Epochs[0] != 4 {
					t.Errorf("view %d has changed with view %d", i+1+j, i)
				}
			}
		}
	}
	if !slices.Equal(seen, heads(head(1, 1), head(2, 2))) || !slices.Equal(epochs, []int{4, 5}) {
		t.Error("what was handed in is changed")
	}
}

// Nothing is promised of lists that are no rows, but that each call ends, changes nothing, and tells the same each time.
func TestListsThatAreNoRows(t *testing.T) {
	down := revs{2, 1, 4, 2, 3}.row("d")
	slices.Reverse(down)
	long := slices.Repeat(row(some(), api.View{R: math.MinInt, Rev: math.MaxInt}, api.View{}, of(math.MaxInt, math.MinInt, "\xff", make([]api.Head, 2), -1)), 1<<12)
	lists := [][]api.View{long, down, row(some(), some(), some()), slices.Repeat(row(api.View{R: 2}), 9), make([]api.View, 9), revs{1, 2, 3}.row("u"), nil}
	for i, a := range lists {
		was := slices.Clone(a)
		for j, b := range lists {
			if !slices.EqualFunc(Merge(a, b), Merge(a, b), alike) {
				t.Errorf("lists %d, %d: not the same each time", i, j)
			}
		}
		if !slices.Equal(Epochs(a, 5), Epochs(a, 5)) {
			t.Errorf("list %d: not the same each time", i)
		}
		if !slices.EqualFunc(a, was, alike) {
			t.Errorf("list %d is changed", i)
		}
	}
}
