package seen

import (
	"errors"
	"math"
	"slices"
	"testing"

	"cardamom/api"
	"cardamom/stamp"
)

// at is the head of an item at time l.
func at(item, l int) api.Head { return head(item, l, 1, 1) }

func head(item, l, r, n int) api.Head {
	return api.Head{Item: item, S: api.Stamp{L: l, R: r, N: n}}
}

func row(l ...api.Head) []api.Head { return l }

// whole is a row of all things.
func whole() []api.Head {
	return row(at(1, 9), at(2, 4), at(3, 7), at(4, 1), at(5, 5000), at(6, 2))
}

func TestMayAtEachLimit(t *testing.T) {
	for _, x := range []struct {
		l    []api.Head
		want bool
	}{
		{nil, true},
		{row(at(-1, 1)), false},
		{row(at(0, 1)), false},
		{row(at(1, 1)), true},
		{row(at(6, 1)), true},
		{row(at(7, 1)), false},
		{whole(), true},
		{append(whole(), at(7, 1)), false},
		{append(whole(), at(6, 3)), false},
		{append(row(at(0, 1)), whole()...), false},
		{append(row(at(1, 1)), whole()...), false},
		{row(at(1, 9), at(2, 9)), true},
		{row(at(1, 9), at(2, 1)), true},
		{row(at(1, 1), at(6, 9)), true},
		{row(at(2, 1), at(1, 9)), false},
		{row(at(2, 1), at(2, 1)), false},
		{row(at(2, 1), at(2, 9)), false},
		{row(at(2, 9), at(2, 1)), false},
		{row(at(1, 1), at(3, 1), at(2, 1)), false},
		{row(at(1, 1), at(3, 1), at(3, 1)), false},
		{row(at(1, 1), at(3, 1), at(1, 1)), false},
		{row(at(1, 1), at(3, 1), at(4, 1)), true},
		{row(head(3, 0, 1, 1)), false},
		{row(head(3, 1, 1, 1)), true},
		{row(head(3, 5000, 5, 1000)), true},
		{row(head(3, 5001, 5, 1000)), false},
		{row(head(3, 9, 0, 1)), false},
		{row(head(3, 9, 6, 1)), false},
		{row(head(3, 9, 5, 0)), false},
		{row(head(3, 9, 5, 9)), true},
		{row(head(3, 9, 5, 10)), false},
		{row(head(3, 5000, 5, 1001)), false},
		{row(api.Head{}), false},
		{row(api.Head{Item: 1}), false},
		{row(api.Head{S: api.Stamp{L: 1, R: 1, N: 1}}), false},
	} {
		if got := May(x.l); got != x.want {
			t.Errorf("May(%v) = %v", x.l, got)
		}
	}
}

// All lists of up to four items from 0 to MaxItem + 1, against those that sets of things have.
func TestMayOfEachListOfItems(t *testing.T) {
	const longest = 4
	count := 0
	var grow func(l []api.Head, rises bool)
	grow = func(l []api.Head, rises bool) {
		if got := May(l); got != rises {
			t.Errorf("May(%v) = %v", l, got)
		}
		if rises {
			count++
		}
		if len(l) == longest {
			return
		}
		for item := 0; item <= api.MaxItem+1; item++ {
			fits := 1 <= item && item <= api.MaxItem && !slices.ContainsFunc(l, func(h api.Head) bool { return h.Item >= item })
			grow(append(slices.Clone(l), at(item, 3)), rises && fits)
		}
	}
	grow(nil, true)
	// Of six things: none, one, two, three, four.
	if want := 1 + 6 + 15 + 20 + 15; count != want {
		t.Errorf("%d lists may be, not %d", count, want)
	}
}

// A head at each place of a row is asked for its item and for its stamp.
func TestMayLooksAtEachPlace(t *testing.T) {
	for i := range whole() {
		for _, h := range []api.Head{
			at(i+2, 1), at(i, 1), at(0, 1), at(7, 1), at(-i-1, 1), head(i+1, 0, 1, 1), head(i+1, 3, 6, 1), head(i+1, 3, 1, 4), {Item: i + 1},
		} {
			l := whole()
			l[i] = h
			if May(l) {
				t.Errorf("May(%v)", l)
			}
		}
	}
}

func TestMayOfWrongInputs(t *testing.T) {
	for _, n := range []int{math.MinInt, math.MinInt + 1, -100, -1, 5001, math.MaxInt - 1, math.MaxInt} {
		for i, l := range [][]api.Head{
			{at(n, 1)}, {at(n, 1), at(1, 1)}, {at(1, 1), at(n, 1)}, {at(n, 1), at(n, 1)}, {at(1, 1), at(n, 1), at(2, 1)},
			{head(1, n, 1, 1)}, {head(1, 1, n, 1)}, {head(1, 1, 1, n)}, {head(n, n, n, n)}, {at(1, 1), head(2, n, 1, 1)}, {head(1, 1, n, 1), at(2, 1)},
		} {
			if May(l) {
				t.Errorf("%d: %d: May = true", n, i)
			}
		}
	}
	if May(make([]api.Head, 1<<20)) || May(slices.Repeat(row(at(1, 1)), 1<<20)) {
		t.Error("a long row may be")
	}
}

func TestFaultIsWrapped(t *testing.T) {
	for _, x := range []struct {
		l     []api.Head
		place int
		want  string
	}{
		{row(at(0, 1)), 0, "head 0: seen: it may not be: Item"},
		{row(at(1, 1), at(7, 1)), 1, "head 1: seen: it may not be: Item"},
		{row(at(1, 1), at(3, 1), at(3, 1)), 2, "head 2: seen: it may not be: the order"},
		{row(at(1, 1), at(2, 0), at(2, 1)), 1, "head 1: seen: it may not be: S"},
		{row(at(2, 1), at(1, 0)), 1, "head 1: seen: it may not be: the order"},
	} {
		err := check(x.l)
		var in inRow
		var f fault
		if !errors.Is(err, errMayNot) || !errors.As(err, &in) || !errors.As(err, &f) || in.place != x.place {
			t.Errorf("%v: %v is not wrapped", x.l, err)
			continue
		}
		if err.Error() != x.want {
			t.Errorf("%v: %v", x.l, err)
		}
	}
	if err := check(whole()); err != nil {
		t.Errorf("whole: %v", err)
	}
}

func TestAt(t *testing.T) {
	l := row(head(2, 5, 4, 3), head(4, 7, 2, 6), head(5, 8, 1, 1))
	for _, x := range []struct {
		item int
		want api.Stamp
	}{
		{2, api.Stamp{L: 5, R: 4, N: 3}},
		{4, api.Stamp{L: 7, R: 2, N: 6}},
		{5, api.Stamp{L: 8, R: 1, N: 1}},
		{1, api.Stamp{}},
		{3, api.Stamp{}},
		{6, api.Stamp{}},
		{0, api.Stamp{}},
		{7, api.Stamp{}},
		{-2, api.Stamp{}},
		{math.MinInt, api.Stamp{}},
		{math.MaxInt, api.Stamp{}},
	} {
		if got := At(l, x.item); got != x.want {
			t.Errorf("At(%d) = %v", x.item, got)
		}
		if got := At(nil, x.item); got != (api.Stamp{}) {
			t.Errorf("At(%d) of no heads = %v", x.item, got)
		}
	}
}

func wantPut(t *testing.T, l []api.Head, h api.Head, want []api.Head) {
	t.Helper()
	if got := Put(l, h); !slices.Equal(got, want) {
		t.Errorf("Put(%v, %v) = %v", l, h, got)
	}
}

func TestPutOfWhatIsNotThere(t *testing.T) {
	l := row(at(2, 5), at(4, 7))
	wantPut(t, nil, at(3, 1), row(at(3, 1)))
	wantPut(t, row(at(3, 9)), at(1, 1), row(at(1, 1), at(3, 9)))
	wantPut(t, row(at(3, 9)), at(6, 1), row(at(3, 9), at(6, 1)))
	wantPut(t, l, at(1, 1), row(at(1, 1), at(2, 5), at(4, 7)))
	wantPut(t, l, at(3, 1), row(at(2, 5), at(3, 1), at(4, 7)))
	wantPut(t, l, at(5, 1), row(at(2, 5), at(4, 7), at(5, 1)))
	wantPut(t, l, at(6, 5000), row(at(2, 5), at(4, 7), at(6, 5000)))
}

func TestPutOfWhatIsThere(t *testing.T) {
	l := row(head(2, 5, 3, 4), head(4, 7, 2, 6), head(5, 1, 1, 1))
	for i, old := range l {
		for _, x := range []struct {
			l, r, n int
			behind  bool
		}{
			{-1, 0, 0, false}, {-1, 5, 1000, false}, {0, -1, 0, false}, {0, 0, -1, false}, {0, 0, 0, false},
			{0, 0, 1, true}, {0, 1, -1, true}, {0, 1, 0, true}, {1, -1, -1, true}, {1, 0, 0, true}, {5, -5, 1000, true},
		} {
			h := head(old.Item, old.S.L+x.l, old.S.R+x.r, old.S.N+x.n)
			want := slices.Clone(l)
			if x.behind {
				want[i] = h
			}
			wantPut(t, l, h, want)
		}
	}
	wantPut(t, row(at(3, 9)), at(3, 10), row(at(3, 10)))
	wantPut(t, row(at(3, 9)), at(3, 9), row(at(3, 9)))
	wantPut(t, row(at(3, 9)), at(3, 8), row(at(3, 9)))
}

// By the promise's words a head is put if it is behind At, whatever it is; without a stamp it is behind nothing.
func TestPutOfWhatMayNotBe(t *testing.T) {
	l := row(at(2, 5), at(4, 7))
	for _, item := range []int{math.MinInt, 0, 1, 2, 3, 4, 5, 7, math.MaxInt} {
		for _, s := range []api.Stamp{{}, {L: -1, R: 9, N: 9}, {R: -1, N: 9}, {N: -1}, {L: math.MinInt, R: math.MaxInt, N: math.MaxInt}} {
			wantPut(t, l, api.Head{Item: item, S: s}, l)
			wantPut(t, nil, api.Head{Item: item, S: s}, nil)
		}
	}
	wantPut(t, l, at(0, 1), row(at(0, 1), at(2, 5), at(4, 7)))
	wantPut(t, l, at(math.MinInt, 1), row(at(math.MinInt, 1), at(2, 5), at(4, 7)))
	wantPut(t, l, at(7, 1), row(at(2, 5), at(4, 7), at(7, 1)))
	wantPut(t, l, at(math.MaxInt, 1), row(at(2, 5), at(4, 7), at(math.MaxInt, 1)))
	wantPut(t, l, head(3, 0, 0, 1), row(at(2, 5), head(3, 0, 0, 1), at(4, 7)))
	wantPut(t, l, head(2, math.MaxInt, 0, 0), row(head(2, math.MaxInt, 0, 0), at(4, 7)))
}

func wantBoth(t *testing.T, a, b, most []api.Head, within, without bool) {
	t.Helper()
	if got := Most(a, b); !slices.Equal(got, most) {
		t.Errorf("Most(%v, %v) = %v", a, b, got)
	}
	if got := Most(b, a); !slices.Equal(got, most) {
		t.Errorf("Most(%v, %v) = %v", b, a, got)
	}
	if got := Within(a, b); got != within {
		t.Errorf("Within(%v, %v) = %v", a, b, got)
	}
	if got := Within(b, a); got != without {
		t.Errorf("Within(%v, %v) = %v", b, a, got)
	}
}

func TestMostAndWithin(t *testing.T) {
	l := row(at(2, 5), at(4, 7))
	wantBoth(t, nil, nil, nil, true, true)
	wantBoth(t, nil, l, l, true, false)
	wantBoth(t, l, l, l, true, true)
	wantBoth(t, l, whole(), row(at(1, 9), at(2, 5), at(3, 7), at(4, 7), at(5, 5000), at(6, 2)), false, false)
	// One has what the other has not.
	wantBoth(t, row(at(2, 5)), l, l, true, false)
	wantBoth(t, row(at(4, 7)), l, l, true, false)
	wantBoth(t, row(at(1, 1)), l, row(at(1, 1), at(2, 5), at(4, 7)), false, false)
	wantBoth(t, row(at(3, 1)), l, row(at(2, 5), at(3, 1), at(4, 7)), false, false)
	wantBoth(t, row(at(6, 1)), l, row(at(2, 5), at(4, 7), at(6, 1)), false, false)
	wantBoth(t, row(at(1, 3), at(3, 3), at(5, 3)), row(at(2, 3), at(4, 3), at(6, 3)), row(at(1, 3), at(2, 3), at(3, 3), at(4, 3), at(5, 3), at(6, 3)), false, false)
	// Both have it.
	wantBoth(t, row(at(2, 4)), l, l, true, false)
	wantBoth(t, row(at(2, 6)), l, row(at(2, 6), at(4, 7)), false, false)
	wantBoth(t, row(at(2, 4), at(4, 6)), l, l, true, false)
	wantBoth(t, row(at(2, 5), at(4, 6)), l, l, true, false)
	wantBoth(t, row(at(2, 6), at(4, 7)), l, row(at(2, 6), at(4, 7)), false, true)
	// Neither is within the other.
	wantBoth(t, row(at(2, 6), at(4, 6)), l, row(at(2, 6), at(4, 7)), false, false)
	wantBoth(t, row(at(2, 4), at(4, 8)), l, row(at(2, 5), at(4, 8)), false, false)
	wantBoth(t, row(at(2, 4), at(5, 1)), l, row(at(2, 5), at(4, 7), at(5, 1)), false, false)
	wantBoth(t, row(at(1, 1), at(2, 9), at(4, 1)), l, row(at(1, 1), at(2, 9), at(4, 7)), false, false)
}

func TestMostAndWithinAreByStampCompare(t *testing.T) {
	old := head(3, 5, 3, 4)
	for _, later := range []api.Head{head(3, 5, 3, 5), head(3, 5, 4, 1), head(3, 6, 1, 1), head(3, 5000, 1, 1)} {
		wantBoth(t, row(old), row(later), row(later), true, false)
		wantBoth(t, row(at(1, 1), old), row(later, at(4, 9)), row(at(1, 1), later, at(4, 9)), false, false)
	}
}

// seenOf is a row as what was seen of each thing, without an order: its place in the stamps, from 1 on; 0: nothing.
type seenOf [api.MaxItem]int

// rows is all rows of so many things, of which each was not seen or has one of the stamps, which rise.
func rows(things int, stamps []api.Stamp) (l []seenOf) {
	l = []seenOf{{}}
	for i := range things {
		var more []seenOf
		for _, s := range l {
			for n := range len(stamps) + 1 {
				s[i] = n
				more = append(more, s)
			}
		}
		l = more
	}
	return l
}

func (s seenOf) row(stamps []api.Stamp) (l []api.Head) {
	for i, n := range s {
		if n > 0 {
			l = append(l, api.Head{Item: i + 1, S: stamps[n-1]})
		}
	}
	return l
}

func (s seenOf) most(o seenOf) seenOf {
	for i := range s {
		s[i] = max(s[i], o[i])
	}
	return s
}

func (s seenOf) within(o seenOf) bool { return s.most(o) == o }

func twoStamps() []api.Stamp { return []api.Stamp{{L: 3, R: 5, N: 3}, {L: 4, R: 1, N: 1}} }

// rising is stamps that differ in each of their parts.
func rising() []api.Stamp {
	return []api.Stamp{{L: 1, R: 1, N: 1}, {L: 4, R: 1, N: 4}, {L: 4, R: 2, N: 1}, {L: 4, R: 2, N: 2}, {L: 5, R: 1, N: 1}, {L: 5000, R: 5, N: 1000}}
}

func TestEachRow(t *testing.T) {
	stamps := twoStamps()
	for _, s := range rows(api.MaxItem, stamps) {
		l := s.row(stamps)
		if !May(l) {
			t.Errorf("May(%v) = false", l)
		}
		for i, n := range s {
			var want api.Stamp
			if n > 0 {
				want = stamps[n-1]
			}
			if got := At(l, i+1); got != want {
				t.Errorf("At(%v, %d) = %v", l, i+1, got)
			}
			for m, put := range stamps {
				with := s
				with[i] = max(n, m+1)
				wantPut(t, l, api.Head{Item: i + 1, S: put}, with.row(stamps))
			}
		}
	}
}

func TestEachTwoRows(t *testing.T) {
	wantEachTwo(t, rows(api.MaxItem, twoStamps()), twoStamps())
	wantEachTwo(t, rows(3, rising()), rising())
}

func wantEachTwo(t *testing.T, l []seenOf, stamps []api.Stamp) {
	t.Helper()
	var as [][]api.Head
	for _, s := range l {
		as = append(as, s.row(stamps))
	}
	for i, a := range l {
		for j, b := range l {
			if got, want := Within(as[i], as[j]), a.within(b); got != want {
				t.Fatalf("Within(%v, %v) = %v", as[i], as[j], got)
			}
			if got, want := Most(as[i], as[j]), a.most(b).row(stamps); !slices.Equal(got, want) {
				t.Fatalf("Most(%v, %v) = %v", as[i], as[j], got)
			}
		}
	}
}

// What was seen only grows: a head that is put or a row that is laid to it takes nothing away, and the order in which they come isn't seen.
func TestWhatWasSeenOnlyGrows(t *testing.T) {
	stamps := rising()
	var seen []api.Head
	var all []api.Head
	state := 1
	for range 400 {
		state = state * 48271 % (1<<31 - 1)
		h := api.Head{Item: state%api.MaxItem + 1, S: stamps[state/7%len(stamps)]}
		next := Put(seen, h)
		if !May(next) || !Within(seen, next) || !Within(row(h), next) {
			t.Fatalf("Put(%v, %v) = %v", seen, h, next)
		}
		if stamp.Compare(At(next, h.Item), h.S) < 0 {
			t.Fatalf("Put(%v, %v) = %v", seen, h, next)
		}
		if laid := Most(seen, row(h)); !slices.Equal(laid, next) {
			t.Fatalf("Most(%v, %v) = %v", seen, h, laid)
		}
		all, seen = append(all, h), next
		if len(all)%20 == 0 {
			var turned []api.Head
			for _, h := range slices.Backward(all) {
				turned = Put(turned, h)
			}
			if !slices.Equal(turned, seen) {
				t.Fatalf("from behind: %v, not %v", turned, seen)
			}
		}
	}
	if len(seen) != api.MaxItem {
		t.Errorf("%v", seen)
	}
}

// roomy is l with spare room behind it, that has something in it.
func roomy(l []api.Head) []api.Head {
	room := append(slices.Clone(l), at(6, 77), at(5, 78), at(4, 79))
	return room[:len(l)]
}

func TestNothingHandedInIsChangedOrKept(t *testing.T) {
	stamps := twoStamps()
	for _, s := range rows(4, stamps) {
		for _, o := range []seenOf{{}, {1}, {0, 2}, {2, 0, 1, 1}, {2, 2, 2, 2, 2, 2}, {0, 0, 0, 0, 1, 2}} {
			a, b := roomy(s.row(stamps)), roomy(o.row(stamps))
			calls := func() {
				May(a)
				for item := range api.MaxItem + 2 {
					At(a, item)
					for _, put := range stamps {
						turn(Put(a, api.Head{Item: item, S: put}))
					}
				}
				Within(a, b)
				turn(Most(a, b))
				turn(Most(b, a))
			}
			calls()
			wantRoomy(t, a, s.row(stamps))
			wantRoomy(t, b, o.row(stamps))
		}
	}
}

// turn writes over an answer and its spare room: what it shares with an argument is seen there.
func turn(l []api.Head) {
	l = l[:cap(l)]
	for i := range l {
		l[i] = at(-1, -1)
	}
}

func wantRoomy(t *testing.T, l, want []api.Head) {
	t.Helper()
	if room := roomy(want); !slices.Equal(l[:len(l)+3], room[:len(want)+3]) {
		t.Errorf("%v is changed to %v", want, l[:len(l)+3])
	}
}

func TestNilAndEmptyAreOne(t *testing.T) {
	none, l := []api.Head{}, whole()
	if !May(none) || At(none, 1) != (api.Stamp{}) {
		t.Error("an empty row is not as no row")
	}
	wantPut(t, none, at(2, 1), row(at(2, 1)))
	wantPut(t, none, api.Head{Item: 2}, nil)
	wantBoth(t, none, nil, nil, true, true)
	wantBoth(t, none, l, l, true, false)
}

// A row whose stamps may not be has them in one order nevertheless; that there is no head is not one of them.
func TestMostAndWithinOfStampsThatMayNotBe(t *testing.T) {
	odd := []api.Stamp{{L: math.MinInt, R: math.MaxInt}, {L: -1}, {}, {N: 1}, {R: 1, N: math.MinInt}, {L: 9000, R: 9, N: 9}, {L: math.MaxInt, R: math.MaxInt, N: math.MaxInt}}
	wantEachTwo(t, rows(3, odd), odd)
}

func TestItemsThatMayNotBe(t *testing.T) {
	l := row(at(math.MinInt, 4), at(-1, 4), at(0, 4), at(7, 4), at(math.MaxInt, 4))
	for _, h := range l {
		if got := At(l, h.Item); got != h.S {
			t.Errorf("At(%d) = %v", h.Item, got)
		}
	}
	wantBoth(t, row(l[0], l[4]), l, l, true, false)
	wantBoth(t, row(l[0]), row(l[4]), row(l[0], l[4]), false, false)
}

// Nothing is promised of lists that do not rise, but that each call ends, changes nothing, and tells the same each time.
func TestListsThatAreNoRows(t *testing.T) {
	long := slices.Repeat(row(at(5, 3), at(1, 9), at(1, 2), api.Head{Item: math.MinInt}, head(math.MaxInt, math.MinInt, math.MaxInt, 0)), 1<<16)
	down := whole()
	slices.Reverse(down)
	lists := [][]api.Head{long, down, row(at(2, 1), at(2, 9), at(2, 5)), slices.Repeat(row(at(3, 3)), 40), make([]api.Head, 9), whole(), nil}
	for i, a := range lists {
		was := slices.Clone(a)
		for _, h := range []api.Head{at(1, 1), at(3, 9), at(9, 9), {}, {Item: math.MinInt, S: api.Stamp{L: math.MaxInt}}} {
			if At(a, h.Item) != At(a, h.Item) || !slices.Equal(Put(a, h), Put(a, h)) {
				t.Errorf("list %d: not the same each time", i)
			}
		}
		for j, b := range lists {
			if Within(a, b) != Within(a, b) || !slices.Equal(Most(a, b), Most(a, b)) {
				t.Errorf("lists %d, %d: not the same each time", i, j)
			}
		}
		if !slices.Equal(a, was) {
			t.Errorf("list %d is changed", i)
		}
	}
}
