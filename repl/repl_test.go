package repl

import (
	"errors"
	"math"
	"slices"
	"strings"
	"testing"
	"unsafe"

	"cardamom/api"
	"cardamom/vers"
	"cardamom/view"
)

func attr(key, val int) api.Attr { return api.Attr{Key: key, Val: val} }

func head(item, l, r, n int) api.Head {
	return api.Head{Item: item, S: api.Stamp{L: l, R: r, N: n}}
}

// alike, alikeView and alikeRepl are apart from the program's, so that a fault there is not hidden here.
func alike(a, b api.Version) bool {
	return a.Item == b.Item && a.S == b.S && a.Dead == b.Dead && slices.Equal(a.Attrs, b.Attrs) && a.Tag == b.Tag && a.Body == b.Body
}

func alikeView(a, b api.View) bool {
	return a.R == b.R && a.Rev == b.Rev && a.Filter == b.Filter && slices.Equal(a.Seen, b.Seen) && slices.Equal(a.Epochs, b.Epochs)
}

func alikeRepl(a, b api.Repl) bool {
	return a.ID == b.ID && a.Size == b.Size && a.L == b.L && a.N == b.N && a.Quota == b.Quota &&
		slices.EqualFunc(a.Held, b.Held, alike) && slices.EqualFunc(a.Views, b.Views, alikeView)
}

func wantRepl(t *testing.T, what string, got, want api.Repl) {
	t.Helper()
	if !alikeRepl(got, want) {
		t.Errorf("%s: %v, not %v", what, got, want)
	}
}

func wantRow(t *testing.T, what string, got, want []api.Version) {
	t.Helper()
	if !slices.EqualFunc(got, want, alike) {
		t.Errorf("%s: %v, not %v", what, got, want)
	}
}

func begun(t *testing.T, id, size, quota int) api.Repl {
	t.Helper()
	r, ok := New(id, size, quota)
	if !ok {
		t.Fatalf("New(%d, %d, %d): no", id, size, quota)
	}
	return r
}

func mustPut(t *testing.T, r api.Repl, item int, tag string, attrs ...api.Attr) api.Repl {
	t.Helper()
	r, _, e := Put(r, item, attrs, tag, "of "+tag)
	if e != api.OK {
		t.Fatalf("Put of %d, %q: %d", item, tag, e)
	}
	return r
}

func mustDelete(t *testing.T, r api.Repl, item int) api.Repl {
	t.Helper()
	r, _, e := Delete(r, item)
	if e != api.OK {
		t.Fatalf("Delete of %d: %d", item, e)
	}
	return r
}

func mustFilter(t *testing.T, r api.Repl, text string) api.Repl {
	t.Helper()
	r, e := SetFilter(r, text)
	if e != api.OK {
		t.Fatalf("SetFilter to %q: %d", text, e)
	}
	return r
}

// wantNoPut, wantNoDelete, wantNoFilter: it is refused so, the replica comes back as it was, and nothing else is told.
func wantNoPut(t *testing.T, r api.Repl, v api.Version, want api.Errno) {
	t.Helper()
	was := copyOf(r)
	x, got, e := Put(r, v.Item, v.Attrs, v.Tag, v.Body)
	if e != want || !alike(got, api.Version{}) {
		t.Errorf("Put of %v: %v, %d, not %d", v, got, e, want)
	}
	wantRepl(t, "what is told", x, was)
	wantRepl(t, "what was handed in", r, was)
}

func wantNoDelete(t *testing.T, r api.Repl, item int, want api.Errno) {
	t.Helper()
	was := copyOf(r)
	x, got, e := Delete(r, item)
	if e != want || !alike(got, api.Version{}) {
		t.Errorf("Delete of %d: %v, %d, not %d", item, got, e, want)
	}
	wantRepl(t, "what is told", x, was)
	wantRepl(t, "what was handed in", r, was)
}

func wantNoFilter(t *testing.T, r api.Repl, text string, want api.Errno) {
	t.Helper()
	was := copyOf(r)
	x, e := SetFilter(r, text)
	if e != want {
		t.Errorf("SetFilter to %.99q: %d, not %d", text, e, want)
	}
	wantRepl(t, "what is told", x, was)
	wantRepl(t, "what was handed in", r, was)
}

func copyOf(r api.Repl) api.Repl {
	r.Held = slices.Clone(r.Held)
	for i := range r.Held {
		r.Held[i].Attrs = slices.Clone(r.Held[i].Attrs)
	}
	r.Views = slices.Clone(r.Views)
	for i := range r.Views {
		r.Views[i].Seen = slices.Clone(r.Views[i].Seen)
		r.Views[i].Epochs = slices.Clone(r.Views[i].Epochs)
	}
	return r
}

func TestNew(t *testing.T) {
	numbers := []int{math.MinInt, -2, -1, 0, 1, 2, 3, 4, 5, 6, 7, 8, 9, 10, math.MaxInt}
	for _, size := range numbers {
		for _, id := range numbers {
			for _, quota := range numbers {
				r, ok := New(id, size, quota)
				may := 1 <= size && size <= 5 && 1 <= id && id <= size && 0 <= quota && quota <= 8
				want := api.Repl{}
				if may {
					want = api.Repl{ID: id, Size: size, Quota: quota}
					for n := 1; n <= size; n++ {
						want.Views = append(want.Views, api.View{R: n})
					}
					want.Views[id-1] = api.View{R: id, Rev: 1, Filter: "*", Epochs: []int{0, 0, 0, 0, 0}[:size]}
				}
				if ok != may || !alikeRepl(r, want) {
					t.Errorf("New(%d, %d, %d) = %v, %v", id, size, quota, r, ok)
				}
				for _, v := range r.Views {
					if !view.May(v, size) {
						t.Errorf("the view %v may not be", v)
					}
				}
			}
		}
	}
}

func TestOwnAndFilterOfNew(t *testing.T) {
	for size := 1; size <= api.MaxRepl; size++ {
		for id := 1; id <= size; id++ {
			r := begun(t, id, size, 0)
			if got := Own(r); !alikeView(got, api.View{R: id, Rev: 1, Filter: "*", Epochs: make([]int, size)}) {
				t.Errorf("Own of %d of %d: %v", id, size, got)
			}
			if f := Filter(r); !sameFilter(f, all()) {
				t.Errorf("Filter of %d of %d: %v", id, size, f)
			}
		}
	}
}

// other is a view of another replica, that no call of this one may change.
func other(r int) api.View {
	return api.View{R: r, Rev: 40 + r, Filter: "^z", Seen: []api.Head{head(2, 3, r, 1), head(6, 9, r, 2)}, Epochs: []int{4, 5, 6}}
}

// amid is replica 2 of 3 that knows of the others; its time is 9, of which two writes are its own.
func amid() api.Repl {
	return api.Repl{
		ID: 2, Size: 3, L: 9, N: 2, Quota: 1,
		Held: []api.Version{
			{Item: 2, S: api.Stamp{L: 3, R: 2, N: 1}, Attrs: []api.Attr{attr(1, 5)}, Tag: "ab", Body: "two"},
			{Item: 4, S: api.Stamp{L: 9, R: 1, N: 4}, Attrs: []api.Attr{attr(0, 7), attr(3, 99)}, Tag: "x", Body: "four"},
			{Item: 5, S: api.Stamp{L: 8, R: 2, N: 2}, Dead: true, Tag: "ac"},
		},
		Views: []api.View{
			other(1),
			{R: 2, Rev: 30, Filter: "^a", Seen: []api.Head{head(1, 2, 3, 1), head(2, 3, 2, 1), head(4, 9, 1, 4), head(5, 8, 2, 2)}, Epochs: []int{1, 2, 3}},
			other(3),
		},
	}
}

func TestOwnAndFilterAmid(t *testing.T) {
	r := amid()
	if got := Own(r); !alikeView(got, amid().Views[1]) {
		t.Errorf("Own: %v", got)
	}
	for text, want := range map[string]api.Filter{
		"^a":           prefix("a"),
		" ^ ab ":       prefix("ab"),
		"*":            all(),
		"@1=05":        eq(1, 5),
		"@3:0-99":      between(3, 0, 99),
		"!(^a|@0=7)":   not(or(prefix("a"), eq(0, 7))),
		"^a & ^b | !*": or(and(prefix("a"), prefix("b")), not(all())),
	} {
		r.Views[1].Filter = text
		if got := Filter(r); !sameFilter(got, want) {
			t.Errorf("the filter of %q: %v", text, got)
		}
	}
}

// wantPut asks for all that a write changes, and for all that it does not.
func wantPut(t *testing.T, r api.Repl, v api.Version, want api.Repl) {
	t.Helper()
	was := copyOf(r)
	got, told, e := Put(r, v.Item, v.Attrs, v.Tag, v.Body)
	if e != api.OK || !alike(told, v) || !vers.May(told) {
		t.Errorf("Put of %v: %v, %d", v, told, e)
	}
	wantRepl(t, "what is told", got, want)
	wantRepl(t, "what was handed in", r, was)
}

func TestPutOfTheFirst(t *testing.T) {
	r := begun(t, 2, 3, 0)
	v := api.Version{Item: 3, S: api.Stamp{L: 1, R: 2, N: 1}, Attrs: []api.Attr{attr(1, 5)}, Tag: "ab", Body: "body"}
	wantPut(t, r, v, api.Repl{ID: 2, Size: 3, L: 1, N: 1, Held: []api.Version{v}, Views: []api.View{
		{R: 1}, {R: 2, Rev: 2, Filter: "*", Seen: []api.Head{head(3, 1, 2, 1)}, Epochs: []int{0, 0, 0}}, {R: 3},
	}})
}

func TestPutAmid(t *testing.T) {
	s := api.Stamp{L: 10, R: 2, N: 3}
	seen := amid().Views[1].Seen
	for _, x := range []struct {
		v    api.Version
		held int
		seen []api.Head
	}{
		// of what is not held, nor was seen
		{api.Version{Item: 3, S: s, Tag: "a", Body: "b"}, 4, []api.Head{seen[0], seen[1], {Item: 3, S: s}, seen[2], seen[3]}},
		{api.Version{Item: 6, S: s, Attrs: []api.Attr{attr(0, 0), attr(1, 1), attr(3, 99)}, Tag: "abcdef"}, 4, []api.Head{seen[0], seen[1], seen[2], seen[3], {Item: 6, S: s}}},
		// of what was seen, and is not held
		{api.Version{Item: 1, S: s, Tag: "ab"}, 4, []api.Head{{Item: 1, S: s}, seen[1], seen[2], seen[3]}},
		// of what is in store, in custody, Dead
		{api.Version{Item: 2, S: s, Tag: "ay", Body: "new"}, 3, []api.Head{seen[0], {Item: 2, S: s}, seen[2], seen[3]}},
		{api.Version{Item: 4, S: s, Tag: "az"}, 3, []api.Head{seen[0], seen[1], {Item: 4, S: s}, seen[3]}},
		{api.Version{Item: 4, S: s, Tag: "z"}, 3, []api.Head{seen[0], seen[1], {Item: 4, S: s}, seen[3]}},
		{api.Version{Item: 5, S: s, Tag: "a", Body: "alive"}, 3, []api.Head{seen[0], seen[1], seen[2], {Item: 5, S: s}}},
	} {
		want := amid()
		want.L, want.N = 10, 3
		want.Held = append(slices.DeleteFunc(want.Held, func(v api.Version) bool { return v.Item == x.v.Item }), x.v)
		slices.SortFunc(want.Held, func(a, b api.Version) int { return a.Item - b.Item })
		if len(want.Held) != x.held {
			t.Fatalf("%v", want.Held)
		}
		want.Views[1].Seen = x.seen
		want.Views[1].Rev = 31
		wantPut(t, amid(), x.v, want)
	}
}

// most is versions at the end of each of their limits.
func most() []api.Version {
	return []api.Version{
		{Item: 1}, {Item: 6},
		{Item: 2, Attrs: []api.Attr{attr(0, 0), attr(1, 99), attr(2, 0)}},
		{Item: 2, Attrs: []api.Attr{attr(1, 0), attr(2, 99), attr(3, 99)}},
		{Item: 2, Attrs: []api.Attr{attr(3, 5)}},
		{Item: 2, Tag: "azazaz"},
		{Item: 2, Body: "\x00\xff no text "},
		{Item: 2, Attrs: []api.Attr{}},
	}
}

// beyond is versions that are in one part beyond a limit, each part in turn.
func beyond() []api.Version {
	return []api.Version{
		{Item: 0}, {Item: 7}, {Item: -1}, {Item: math.MinInt}, {Item: math.MaxInt},
		{Item: 1, Attrs: []api.Attr{attr(0, 0), attr(1, 0), attr(2, 0), attr(3, 0)}},
		{Item: 1, Attrs: []api.Attr{attr(-1, 0)}}, {Item: 1, Attrs: []api.Attr{attr(4, 0)}},
		{Item: 1, Attrs: []api.Attr{attr(math.MinInt, 0)}}, {Item: 1, Attrs: []api.Attr{attr(math.MaxInt, 0)}},
		{Item: 1, Attrs: []api.Attr{attr(1, 0), attr(1, 0)}}, {Item: 1, Attrs: []api.Attr{attr(2, 0), attr(1, 0)}},
		{Item: 1, Attrs: []api.Attr{attr(0, -1)}}, {Item: 1, Attrs: []api.Attr{attr(0, 100)}},
		{Item: 1, Attrs: []api.Attr{attr(0, 0), attr(1, math.MaxInt)}}, {Item: 1, Attrs: make([]api.Attr, 1<<16)},
		{Item: 1, Tag: "abcdefg"}, {Item: 1, Tag: "A"}, {Item: 1, Tag: "a b"}, {Item: 1, Tag: "é"}, {Item: 1, Tag: "\xff"}, {Item: 1, Tag: "`"}, {Item: 1, Tag: "{"}, {Item: 1, Tag: "a1"},
		{Item: 1, Body: "thirteen byte"}, {Item: 1, Body: strings.Repeat("b", 1<<20)},
	}
}

func TestPutOfVersionsThatMayBeOrNot(t *testing.T) {
	r := begun(t, 1, 1, 8)
	for _, v := range most() {
		v.S = api.Stamp{L: 1, R: 1, N: 1}
		wantPut(t, r, v, api.Repl{ID: 1, Size: 1, L: 1, N: 1, Quota: 8, Held: []api.Version{v}, Views: []api.View{
			{R: 1, Rev: 2, Filter: "*", Seen: []api.Head{head(v.Item, 1, 1, 1)}, Epochs: []int{0}},
		}})
	}
	for _, v := range beyond() {
		wantNoPut(t, r, v, api.EArg)
		wantNoPut(t, amid(), v, api.EArg)
	}
}

// at is r at time l, behind its n'th write.
func at(r api.Repl, l, n int) api.Repl {
	r.L, r.N = l, n
	return r
}

// ends is times and numbers of writes behind which there is one more stamp, or none.
func ends() []struct {
	l, n int
	more bool
} {
	return []struct {
		l, n int
		more bool
	}{
		{0, 0, true}, {9, 9, true}, {9, 0, true},
		{2000, 998, true}, {2000, 999, true}, {2000, 1000, false}, {2000, 1001, false}, {4000, math.MaxInt, false},
		{4998, 3, true}, {4999, 3, true}, {5000, 3, false}, {5001, 3, false}, {math.MaxInt, 3, false},
		{4999, 999, true}, {4999, 1000, false}, {5000, 999, false},
		{3, 3, true}, {3, 4, false}, {0, 1, false}, {999, 999, true}, {998, 999, false},
		{-1, 0, false}, {5, -1, false}, {math.MinInt, 0, false}, {5, math.MinInt, false}, {-1, -1, false},
	}
}

func TestPutWithAndWithoutAStampLeft(t *testing.T) {
	for _, x := range ends() {
		for _, id := range []int{1, 3, 5} {
			r := at(begun(t, id, 5, 1), x.l, x.n)
			v := api.Version{Item: 4, Tag: "q"}
			if !x.more {
				wantNoPut(t, r, v, api.EMax)
				continue
			}
			v.S = api.Stamp{L: x.l + 1, R: id, N: x.n + 1}
			want := at(begun(t, id, 5, 1), x.l+1, x.n+1)
			want.Held = []api.Version{v}
			want.Views[id-1].Rev = 2
			want.Views[id-1].Seen = []api.Head{{Item: 4, S: v.S}}
			wantPut(t, r, v, want)
		}
	}
}

// inCustody is replica 1 of 2 that wants what begins with a, and holds so many others, of things 1 on.
func inCustody(t *testing.T, n, quota int) api.Repl {
	t.Helper()
	r := begun(t, 1, 2, quota)
	for item := 1; item <= n; item++ {
		r = mustPut(t, r, item, "x", attr(1, item))
	}
	return mustFilter(t, r, "^a")
}

func TestPutWithAndWithoutRoom(t *testing.T) {
	for quota := range api.MaxQuota + 1 {
		for n := 0; n <= min(quota, api.MaxItem); n++ {
			r := inCustody(t, n, quota)
			for item := 1; item <= api.MaxItem; item++ {
				// What the filter lets through needs no room.
				mustPut(t, r, item, "ab")
				others := n
				if item <= n {
					others--
				}
				if others < quota {
					x := mustPut(t, r, item, "b")
					if len(x.Held) != others+1 {
						t.Errorf("%v", x)
					}
				} else {
					wantNoPut(t, r, api.Version{Item: item, Tag: "b"}, api.EFull)
				}
			}
		}
	}
}

// The thing that is written may be in store, in custody, or Dead in either: of the others alone it hangs whether there is room.
func TestPutWithoutRoomOfWhatIsHeld(t *testing.T) {
	r := inCustody(t, 2, 2)
	r = mustPut(t, mustPut(t, r, 3, "a"), 4, "ab")
	r = mustDelete(t, mustDelete(t, r, 2), 4)
	for item, room := range map[int]bool{1: true, 2: true, 3: false, 4: false, 5: false, 6: false} {
		mustPut(t, r, item, "ac")
		if !room {
			wantNoPut(t, r, api.Version{Item: item, Tag: "c"}, api.EFull)
			continue
		}
		x := mustPut(t, r, item, "c")
		if len(x.Held) != 4 || x.Held[item-1].Tag != "c" {
			t.Errorf("%v", x)
		}
	}
	// Whether it is let through hangs on what is written, not on what is held.
	wantNoPut(t, r, api.Version{Item: 3}, api.EFull)
	x := mustPut(t, mustPut(t, r, 1, "a"), 5, "c")
	wantNoPut(t, x, api.Version{Item: 6, Tag: "c"}, api.EFull)
	// More may be in custody than Quota, where others made the replica so: then there is no room either.
	r.Quota = 1
	wantNoPut(t, r, api.Version{Item: 5, Tag: "c"}, api.EFull)
	wantNoPut(t, r, api.Version{Item: 1, Tag: "c"}, api.EFull)
	r.Quota = 0
	wantNoPut(t, r, api.Version{Item: 1, Tag: "c"}, api.EFull)
	mustPut(t, r, 1, "ac")
}

func TestPutTellsTheFirstRefusal(t *testing.T) {
	full := inCustody(t, 2, 2)
	last := at(full, 5000, 2)
	wantNoPut(t, full, api.Version{Item: 7, Tag: "b"}, api.EArg)
	wantNoPut(t, full, api.Version{Item: 5, Tag: "b", Body: "thirteen byte"}, api.EArg)
	wantNoPut(t, last, api.Version{Item: 7, Tag: "b"}, api.EArg)
	wantNoPut(t, last, api.Version{Item: 7, Tag: "a"}, api.EArg)
	wantNoPut(t, last, api.Version{Item: 5, Tag: "b"}, api.EMax)
	wantNoPut(t, last, api.Version{Item: 5, Tag: "a"}, api.EMax)
	wantNoPut(t, full, api.Version{Item: 5, Tag: "b"}, api.EFull)
	mustPut(t, full, 5, "a")
}

func wantDelete(t *testing.T, r api.Repl, v api.Version, want api.Repl) {
	t.Helper()
	was := copyOf(r)
	got, told, e := Delete(r, v.Item)
	if e != api.OK || !alike(told, v) || !vers.May(told) {
		t.Errorf("Delete of %d: %v, %d", v.Item, told, e)
	}
	wantRepl(t, "what is told", got, want)
	wantRepl(t, "what was handed in", r, was)
}

func TestDeleteOfWhatIsHeld(t *testing.T) {
	s := api.Stamp{L: 10, R: 2, N: 3}
	// 2 is in store, 4 in custody.
	for place, v := range []api.Version{
		{Item: 2, S: s, Dead: true, Attrs: []api.Attr{attr(1, 5)}, Tag: "ab"},
		{Item: 4, S: s, Dead: true, Attrs: []api.Attr{attr(0, 7), attr(3, 99)}, Tag: "x"},
	} {
		for quota := range 3 {
			r := amid()
			r.Quota = quota
			want := copyOf(r)
			want.L, want.N = 10, 3
			want.Held[place] = v
			want.Views[1].Seen[place+1].S = s
			want.Views[1].Rev = 31
			wantDelete(t, r, v, want)
		}
	}
}

func TestDeleteOfNone(t *testing.T) {
	for _, item := range []int{math.MinInt, -1, 0, 1, 3, 5, 6, 7, math.MaxInt} {
		wantNoDelete(t, amid(), item, api.ENone)
		wantNoDelete(t, at(amid(), 5000, 1000), item, api.ENone)
		wantNoDelete(t, begun(t, 1, 1, 0), item, api.ENone)
	}
}

// What was written again behind its end can be ended again.
func TestDeleteOfWhatWasDeleted(t *testing.T) {
	r := mustDelete(t, mustPut(t, begun(t, 1, 1, 0), 3, "a"), 3)
	wantNoDelete(t, r, 3, api.ENone)
	r = mustPut(t, r, 3, "b", attr(2, 2))
	if v, ok := Get(r, 3); !ok || v.Tag != "b" || v.Dead {
		t.Errorf("Get: %v, %v", v, ok)
	}
	_, v, e := Delete(r, 3)
	if e != api.OK || !alike(v, api.Version{Item: 3, S: api.Stamp{L: 4, R: 1, N: 4}, Dead: true, Attrs: []api.Attr{attr(2, 2)}, Tag: "b"}) {
		t.Errorf("Delete: %v, %d", v, e)
	}
}

func TestDeleteWithAndWithoutAStampLeft(t *testing.T) {
	for _, x := range ends() {
		r := at(amid(), x.l, x.n)
		for i := range r.Held {
			r.Held[i].S.L = 0
		}
		r.Views[1].Seen = nil
		if !x.more {
			wantNoDelete(t, r, 2, api.EMax)
			wantNoDelete(t, r, 4, api.EMax)
			continue
		}
		y, v, e := Delete(r, 2)
		if e != api.OK || v.S != (api.Stamp{L: x.l + 1, R: 2, N: x.n + 1}) || y.L != x.l+1 || y.N != x.n+1 {
			t.Errorf("%v: %v, %d", x, v, e)
		}
	}
}

// There is always room for the end of a thing: with custody full, of one that is in custody, and of one in store.
func TestDeleteWithCustodyFull(t *testing.T) {
	for n := range 6 {
		r := mustPut(t, inCustody(t, n, n), 6, "a")
		for item := 1; item <= n; item++ {
			r = mustDelete(t, r, item)
			wantNoDelete(t, r, item, api.ENone)
		}
		r = mustDelete(t, r, 6)
		if len(r.Held) != n+1 {
			t.Errorf("%v", r)
		}
		// What is no more is in custody all the same.
		wantNoPut(t, r, api.Version{Item: 6, Tag: "b"}, api.EFull)
	}
}

func TestSetFilter(t *testing.T) {
	for text, fits := range map[string]bool{
		"*": true, "^a": true, " ^\ta|\n^q ": false, "^  a | ^q ": true, "^ab": false, "!*": false, "!^x": true, "@1=5": false,
		"(^a)": true, "@0=7|^ac": true, "@0=07|^ac": true, "^ab|^x": true, "^ab|^ac": true, "^b": false, "^xx|^a": true, "!@3=99": true, "!@1=5": true, "@1:5-5|@0:7-8": true,
	} {
		r := amid()
		if !fits {
			if _, e := SetFilter(r, text); e == api.OK {
				t.Errorf("SetFilter to %q", text)
			}
			continue
		}
		want := amid()
		want.Views[1].Filter = text
		want.Views[1].Epochs[1] = 3
		want.Views[1].Rev = 31
		// Thing 1 was seen, and is not held.
		want.Views[1].Seen = []api.Head{head(2, 3, 2, 1), head(4, 9, 1, 4), head(5, 8, 2, 2)}
		got, e := SetFilter(r, text)
		if e != api.OK {
			t.Errorf("SetFilter to %q: %d", text, e)
		}
		wantRepl(t, text, got, want)
		wantRepl(t, "what was handed in", r, amid())
	}
}

func TestSetFilterOfEachReplica(t *testing.T) {
	for size := 1; size <= api.MaxRepl; size++ {
		for id := 1; id <= size; id++ {
			r := begun(t, id, size, 0)
			want := begun(t, id, size, 0)
			for n := 1; n <= 3; n++ {
				r = mustFilter(t, r, "!*")
				want.Views[id-1].Filter = "!*"
				want.Views[id-1].Epochs[id-1] = n
				want.Views[id-1].Rev = n + 1
				wantRepl(t, "set again", r, want)
			}
		}
	}
}

func TestSetFilterToATextThatIsNone(t *testing.T) {
	full := inCustody(t, 3, 3)
	full.Quota = 2
	for _, text := range []string{
		"", " ", "a", "^", "^A", "@", "@1", "@1=", "@1=100", "@4=1", "@1:5", "@1:5-", "@1:5-4", "!", "()", "(*", "*)", "* *", "*&", "|*", "&", "^abcdefg", "\xff", "\x00", "*\xff", "é",
		"!!!!!!*", strings.Repeat(" ", 80) + "*", strings.Repeat("*", 1<<16), strings.Repeat("!", 1<<16) + "*", strings.Repeat("(", 1<<16),
	} {
		wantNoFilter(t, amid(), text, api.EForm)
		wantNoFilter(t, begun(t, 1, 1, 0), text, api.EForm)
		wantNoFilter(t, begun(t, 1, 1, 8), text, api.EForm)
		// More is in custody than Quota: what is told first is that the text is none.
		wantNoFilter(t, full, text, api.EForm)
	}
	mustFilter(t, begun(t, 1, 1, 0), "!!!!!*")
	mustFilter(t, begun(t, 1, 1, 0), strings.Repeat(" ", 79)+"*")
}

func TestSetFilterWithAndWithoutRoom(t *testing.T) {
	for quota := range api.MaxQuota + 1 {
		for held := range api.MaxItem + 1 {
			r := begun(t, 1, 2, quota)
			for item := 1; item <= held; item++ {
				r = mustPut(t, r, item, "ab", attr(1, item))
			}
			if held > 1 {
				// What is no more counts as what is.
				r = mustDelete(t, r, 1)
			}
			for _, x := range []struct {
				text string
				out  int
			}{{"*", 0}, {"!*", held}, {"^a", 0}, {"^b", held}, {"@1:0-3", max(0, held-3)}, {"!@1=1", min(held, 1)}, {"@1=1", max(0, held-1)}} {
				if x.out > quota {
					wantNoFilter(t, r, x.text, api.EFull)
				} else if got := mustFilter(t, r, x.text); !slices.EqualFunc(got.Held, r.Held, alike) || Own(got).Filter != x.text {
					t.Errorf("%q: %v", x.text, got)
				}
			}
		}
	}
}

// It hangs on the new filter alone how many are in custody, not on the old one.
func TestSetFilterOutOfCustody(t *testing.T) {
	r := inCustody(t, 3, 3)
	r = mustFilter(t, r, "^x")
	for item := 4; item <= 6; item++ {
		r = mustPut(t, r, item, "b")
	}
	wantNoPut(t, r, api.Version{Item: 1, Tag: "b"}, api.EFull)
	wantNoFilter(t, r, "^a", api.EFull)
	r = mustFilter(t, r, "^b")
	r = mustFilter(t, r, "*")
	r.Quota = 0
	wantNoFilter(t, r, "^b", api.EFull)
	mustFilter(t, r, "^b|^x")
}

func TestGet(t *testing.T) {
	r := amid()
	r.Held = append(r.Held, api.Version{Item: 6, S: api.Stamp{L: 4, R: 3, N: 2}, Attrs: []api.Attr{attr(2, 2)}, Tag: "abc", Body: "six"})
	for item, there := range map[int]bool{2: true, 6: true, 4: false, 5: false, 1: false, 3: false, 0: false, 7: false, -1: false, math.MinInt: false, math.MaxInt: false} {
		var want api.Version
		if there {
			want = r.Held[map[int]int{2: 0, 6: 3}[item]]
		}
		if v, ok := Get(r, item); ok != there || !alike(v, want) {
			t.Errorf("Get of %d: %v, %v", item, v, ok)
		}
	}
	r.Views[1].Filter = "^x"
	for item, there := range map[int]bool{2: false, 4: true, 5: false, 6: false} {
		if v, ok := Get(r, item); ok != there || v.Item != map[bool]int{true: item}[ok] {
			t.Errorf("Get of %d: %v, %v", item, v, ok)
		}
	}
	// One that is Dead and in custody.
	r.Views[1].Filter = "!^a"
	if v, ok := Get(r, 5); ok || !alike(v, api.Version{}) {
		t.Errorf("Get: %v, %v", v, ok)
	}
}

func all() api.Filter { return api.Filter{Op: api.All} }

func eq(key, n int) api.Filter { return api.Filter{Op: api.Eq, Key: key, Lo: n, Hi: n} }

func between(key, lo, hi int) api.Filter {
	return api.Filter{Op: api.Range, Key: key, Lo: lo, Hi: hi}
}

func prefix(tag string) api.Filter { return api.Filter{Op: api.Prefix, Tag: tag} }

func not(f api.Filter) api.Filter { return api.Filter{Op: api.Not, Args: []api.Filter{f}} }

func and(a, b api.Filter) api.Filter { return api.Filter{Op: api.And, Args: []api.Filter{a, b}} }

func or(a, b api.Filter) api.Filter { return api.Filter{Op: api.Or, Args: []api.Filter{a, b}} }

func sameFilter(a, b api.Filter) bool {
	return a.Op == b.Op && a.Key == b.Key && a.Lo == b.Lo && a.Hi == b.Hi && a.Tag == b.Tag && slices.EqualFunc(a.Args, b.Args, sameFilter)
}

func items(l []api.Version) (out []int) {
	for _, v := range l {
		out = append(out, v.Item)
	}
	return out
}

func TestQuery(t *testing.T) {
	r := begun(t, 1, 1, 8)
	r = mustPut(t, r, 6, "ac", attr(1, 3))
	r = mustPut(t, r, 1, "a")
	r = mustPut(t, r, 2, "b", attr(1, 3))
	r = mustPut(t, r, 3, "ac", attr(0, 1), attr(1, 9))
	r = mustPut(t, r, 4, "ad", attr(1, 3))
	r = mustPut(t, r, 5, "c")
	r = mustDelete(t, mustDelete(t, r, 4), 5)
	for i, x := range []struct {
		own  string
		f    api.Filter
		want []int
	}{
		{"^a", all(), []int{1, 3, 6}},
		{"^a", prefix("a"), []int{1, 3, 6}},
		{"^a", prefix("ac"), []int{3, 6}},
		{"^a", prefix("b"), nil},
		{"^a", prefix("ad"), nil},
		{"^a", not(all()), nil},
		{"^a", not(prefix("ac")), []int{1}},
		{"^a", between(1, 0, 99), []int{3, 6}},
		{"^a", eq(1, 3), []int{6}},
		{"^a", not(between(1, 0, 99)), []int{1}},
		{"^a", and(prefix("ac"), eq(0, 1)), []int{3}},
		{"^a", or(eq(1, 3), eq(0, 1)), []int{3, 6}},
		{"*", all(), []int{1, 2, 3, 6}},
		{"*", eq(1, 3), []int{2, 6}},
		{"*", not(prefix("a")), []int{2}},
		{"!*", all(), nil},
		{"!^a", all(), []int{2}},
		{"@1=3", all(), []int{2, 6}},
		{"@1=3", prefix("a"), []int{6}},
	} {
		r := mustFilter(t, r, x.own)
		got := Query(r, x.f)
		if !slices.Equal(items(got), x.want) {
			t.Errorf("%d: Query of %v: %v", i, x.f, got)
		}
		for _, v := range got {
			if one, ok := Get(r, v.Item); !ok || !alike(one, v) || !alike(v, r.Held[v.Item-1]) {
				t.Errorf("%d: %v, %v", i, v, one)
			}
		}
	}
	if got := Query(begun(t, 1, 1, 0), all()); len(got) != 0 {
		t.Errorf("of nothing held: %v", got)
	}
}

// parts is how a replica can differ from amid in one part alone, each part in turn.
func parts() []func(*api.Repl) {
	return []func(*api.Repl){
		func(r *api.Repl) { r.ID = 3 },
		func(r *api.Repl) { r.Size = 4 },
		func(r *api.Repl) { r.L = 10 },
		func(r *api.Repl) { r.N = 3 },
		func(r *api.Repl) { r.Quota = 2 },
		func(r *api.Repl) { r.Held = r.Held[:2] },
		func(r *api.Repl) { r.Held = r.Held[1:] },
		func(r *api.Repl) { r.Held = nil },
		func(r *api.Repl) { r.Held = append(r.Held, api.Version{Item: 6}) },
		func(r *api.Repl) { r.Held[0].Item = 1 },
		func(r *api.Repl) { r.Held[1].S.L = 8 },
		func(r *api.Repl) { r.Held[1].S.R = 2 },
		func(r *api.Repl) { r.Held[1].S.N = 5 },
		func(r *api.Repl) { r.Held[2].Dead = false },
		func(r *api.Repl) { r.Held[1].Attrs = r.Held[1].Attrs[:1] },
		func(r *api.Repl) { r.Held[1].Attrs[1].Key = 2 },
		func(r *api.Repl) { r.Held[1].Attrs[1].Val = 98 },
		func(r *api.Repl) { r.Held[2].Tag = "ab" },
		func(r *api.Repl) { r.Held[0].Body = "Two" },
		func(r *api.Repl) { r.Views = r.Views[:2] },
		func(r *api.Repl) { r.Views = nil },
		func(r *api.Repl) { r.Views = append(r.Views, api.View{}) },
		func(r *api.Repl) { r.Views[2].R = 2 },
		func(r *api.Repl) { r.Views[2].Rev-- },
		func(r *api.Repl) { r.Views[1].Rev++ },
		func(r *api.Repl) { r.Views[1].Filter = "^a " },
		func(r *api.Repl) { r.Views[0].Filter = "" },
		func(r *api.Repl) { r.Views[0].Seen = r.Views[0].Seen[:1] },
		func(r *api.Repl) { r.Views[0].Seen[1].Item = 5 },
		func(r *api.Repl) { r.Views[1].Seen[1].S.N = 2 },
		func(r *api.Repl) { r.Views[1].Epochs[2] = 2 },
		func(r *api.Repl) { r.Views[2].Epochs = r.Views[2].Epochs[:2] },
	}
}

func TestSame(t *testing.T) {
	if !Same(amid(), amid()) || !Same(api.Repl{}, api.Repl{}) {
		t.Error("it is the same as itself")
	}
	for i, change := range parts() {
		r := amid()
		change(&r)
		if Same(r, amid()) || Same(amid(), r) || !Same(r, copyOf(r)) {
			t.Errorf("%d: %v", i, r)
		}
	}
	empty := amid()
	empty.Held[2].Attrs = []api.Attr{}
	empty.Views = append(empty.Views, api.View{Seen: []api.Head{}, Epochs: []int{}})
	bare := amid()
	bare.Views = append(bare.Views, api.View{})
	if !Same(empty, bare) || !Same(api.Repl{Held: []api.Version{}, Views: []api.View{}}, api.Repl{}) {
		t.Error("nil and an empty list are one")
	}
}

// wish is a filter's text, and what it lets through, reckoned apart from the program.
type wish struct {
	text string
	lets func(api.Version) bool
}

func value(v api.Version, key int) int {
	for _, a := range v.Attrs {
		if a.Key == key {
			return a.Val
		}
	}
	return -1
}

func begins(v api.Version, tag string) bool { return strings.HasPrefix(v.Tag, tag) }

func wishes() []wish {
	return []wish{
		{"*", func(api.Version) bool { return true }},
		{"!*", func(api.Version) bool { return false }},
		{"^a", func(v api.Version) bool { return begins(v, "a") }},
		{"^ab", func(v api.Version) bool { return begins(v, "ab") }},
		{"!^b", func(v api.Version) bool { return !begins(v, "b") }},
		{"@0=1", func(v api.Version) bool { return value(v, 0) == 1 }},
		{"@2:1-2", func(v api.Version) bool { return value(v, 2) == 1 || value(v, 2) == 2 }},
		{" ^a & !@0=1 ", func(v api.Version) bool { return begins(v, "a") && value(v, 0) != 1 }},
		{"^b | @2 = 0", func(v api.Version) bool { return begins(v, "b") || value(v, 2) == 0 }},
	}
}

// model is a replica reckoned plainly: by thing what is held and seen, without an order.
type model struct {
	l, n, quota, rev, epoch int
	wish                    wish
	held                    map[int]api.Version
	seen                    map[int]api.Stamp
}

func (m *model) custody(but int, lets func(api.Version) bool) (n int) {
	for item, v := range m.held {
		if item != but && !lets(v) {
			n++
		}
	}
	return n
}

// write is what the model does with v, of which it is known that it may be.
func (m *model) write(v api.Version, id int) (api.Version, api.Errno) {
	if m.n >= api.MaxCount || m.l >= api.MaxCount*api.MaxRepl {
		return api.Version{}, api.EMax
	}
	if !v.Dead && !m.wish.lets(v) && m.custody(v.Item, m.wish.lets) >= m.quota {
		return api.Version{}, api.EFull
	}
	m.l++
	m.n++
	m.rev++
	v.S = api.Stamp{L: m.l, R: id, N: m.n}
	m.held[v.Item] = v
	m.seen[v.Item] = v.S
	return v, api.OK
}

func (m *model) end(item, id int) (api.Version, api.Errno) {
	v, ok := m.held[item]
	if !ok || v.Dead {
		return api.Version{}, api.ENone
	}
	v.Dead, v.Body = true, ""
	return m.write(v, id)
}

func (m *model) set(w wish) api.Errno {
	if m.custody(0, w.lets) > m.quota {
		return api.EFull
	}
	m.wish = w
	m.rev++
	m.epoch++
	m.seen = map[int]api.Stamp{}
	for item, v := range m.held {
		m.seen[item] = v.S
	}
	return api.OK
}

// repl is the model as a replica of whose other views nothing is known.
func (m *model) repl(id, size int) api.Repl {
	r := api.Repl{ID: id, Size: size, L: m.l, N: m.n, Quota: m.quota}
	for n := 1; n <= size; n++ {
		r.Views = append(r.Views, api.View{R: n})
	}
	own := api.View{R: id, Rev: m.rev, Filter: m.wish.text, Epochs: make([]int, size)}
	own.Epochs[id-1] = m.epoch
	for item := 1; item <= api.MaxItem; item++ {
		if v, ok := m.held[item]; ok {
			r.Held = append(r.Held, v)
		}
		if s, ok := m.seen[item]; ok {
			own.Seen = append(own.Seen, api.Head{Item: item, S: s})
		}
	}
	r.Views[id-1] = own
	return r
}

func (m *model) wantAsked(t *testing.T, r api.Repl, w wish) {
	t.Helper()
	var asked []api.Version
	for item := 0; item <= api.MaxItem+1; item++ {
		v, ok := m.held[item]
		if ok = ok && !v.Dead && m.wish.lets(v); !ok {
			v = api.Version{}
		}
		if got, there := Get(r, item); there != ok || !alike(got, v) {
			t.Errorf("Get of %d: %v, %v, not %v", item, got, there, v)
		}
		if ok && w.lets(v) {
			asked = append(asked, v)
		}
	}
	f := Filter(api.Repl{ID: 1, Views: []api.View{{Filter: w.text}}})
	wantRow(t, "Query of "+w.text, Query(r, f), asked)
}

// chance tells numbers that hang on nothing but how often it was asked.
type chance int

func (c *chance) below(n int) int {
	*c = *c * 48271 % (1<<31 - 1)
	return int(*c) / 7 % n
}

func (c *chance) version() api.Version {
	v := api.Version{Item: 1 + c.below(api.MaxItem), Tag: []string{"", "a", "ab", "abc", "b", "ba", "c"}[c.below(7)], Body: []string{"", "x", "twelve bytes"}[c.below(3)]}
	for _, key := range []int{0, 2} {
		if n := c.below(4); n < 3 {
			v.Attrs = append(v.Attrs, attr(key, n))
		}
	}
	return v
}

// Whatever is written and set, in whatever order: the replica is what is reckoned plainly.
func TestRunsAgainstAModel(t *testing.T) {
	told := map[api.Errno]int{}
	for run := range 80 {
		c := chance(1 + run)
		size := 1 + run%api.MaxRepl
		id, quota := 1+c.below(size), c.below(7)
		r := begun(t, id, size, quota)
		m := &model{quota: quota, rev: 1, wish: wishes()[0], held: map[int]api.Version{}, seen: map[int]api.Stamp{}}
		for range 120 {
			if t.Failed() {
				return
			}
			w := wishes()[c.below(len(wishes()))]
			var got, want api.Version
			var e, no api.Errno
			switch c.below(10) {
			case 0, 1:
				r, e = SetFilter(r, w.text)
				no = m.set(w)
			case 2, 3:
				item := 1 + c.below(api.MaxItem)
				r, got, e = Delete(r, item)
				want, no = m.end(item, id)
			case 4:
				// It saw a later time, or that of a write near the last of all.
				m.l += []int{1, 5, 900}[c.below(3)]
				r.L = m.l
			case 5:
				// What another one keeps was dropped here.
				item := 1 + c.below(api.MaxItem)
				delete(m.held, item)
				r.Held = slices.DeleteFunc(r.Held, func(v api.Version) bool { return v.Item == item })
			default:
				v := c.version()
				r, got, e = Put(r, v.Item, v.Attrs, v.Tag, v.Body)
				want, no = m.write(v, id)
			}
			told[e]++
			if e != no || !alike(got, want) {
				t.Errorf("run %d: %v, %d, not %v, %d", run, got, e, want, no)
			}
			wantRepl(t, "run", r, m.repl(id, size))
			m.wantAsked(t, r, w)
			if !sameFilter(Filter(r), Filter(api.Repl{ID: 1, Views: []api.View{{Filter: m.wish.text}}})) || !alikeView(Own(r), r.Views[id-1]) {
				t.Errorf("run %d: %v, %v", run, Filter(r), Own(r))
			}
		}
	}
	for _, e := range []api.Errno{api.OK, api.ENone, api.EFull, api.EMax} {
		if told[e] < 40 {
			t.Errorf("%d was told %d times", e, told[e])
		}
	}
}

// All writes of one replica: the thousandth is the last.
func TestEachStampOfAReplica(t *testing.T) {
	r := begun(t, 3, 3, 0)
	for n := 1; n <= api.MaxCount; n++ {
		var v api.Version
		var e api.Errno
		if n%2 == 1 {
			r, v, e = Put(r, 2, nil, "a", "b")
		} else {
			r, v, e = Delete(r, 2)
		}
		if e != api.OK || v.S != (api.Stamp{L: n, R: 3, N: n}) || Own(r).Rev != n+1 {
			t.Fatalf("write %d: %v, %d", n, v, e)
		}
	}
	wantNoPut(t, r, api.Version{Item: 2}, api.EMax)
	wantNoDelete(t, r, 2, api.ENone)
	mustFilter(t, r, "^a")
}

// What is within the limits stays so: what is told may be handed on.
func TestWhatIsToldMayBe(t *testing.T) {
	c := chance(5)
	r := begun(t, 4, 5, 3)
	for range 300 {
		v := c.version()
		r, _, _ = Put(r, v.Item, v.Attrs, v.Tag, v.Body)
		r, _, _ = Delete(r, 1+c.below(api.MaxItem))
		r, _ = SetFilter(r, wishes()[c.below(len(wishes()))].text)
		for i, v := range r.Held {
			if !vers.May(v) || i > 0 && r.Held[i-1].Item >= v.Item {
				t.Fatalf("%v", r.Held)
			}
		}
		for _, v := range r.Views {
			if !view.May(v, 5) {
				t.Fatalf("%v", v)
			}
		}
	}
}

func TestErrorsAreWrapped(t *testing.T) {
	full := inCustody(t, 2, 2)
	put := func(r api.Repl, v api.Version) error {
		_, err := toPut(r, v)
		return err
	}
	end := func(r api.Repl, item int) error {
		_, err := toDelete(r, item)
		return err
	}
	for _, x := range []struct {
		err, is error
		text    string
		no      api.Errno
	}{
		{checkNew(1, 0, 0), errArg, "size: repl: it may not be", api.EArg},
		{checkNew(3, 2, 0), errArg, "id: repl: it may not be", api.EArg},
		{checkNew(1, 1, 9), errArg, "quota: repl: it may not be", api.EArg},
		{put(full, api.Version{Item: 7}), errArg, "thing 7: repl: it may not be", api.EArg},
		{put(at(full, 5000, 2), api.Version{Item: 5}), errMax, "thing 5: stamp: repl: there is no stamp left", api.EMax},
		{put(full, api.Version{Item: 5}), errFull, "thing 5: repl: there is no room to hold it", api.EFull},
		{end(full, 5), errNone, "thing 5: repl: there is none", api.ENone},
		{end(at(full, 5000, 2), 1), errMax, "thing 1: stamp: repl: there is no stamp left", api.EMax},
		{checkFilter(full, "^a|"), errForm, "byte 3: repl: it is no filter's text", api.EForm},
		{checkFilter(at(mustPut(t, full, 6, "a"), 1, 1), "^c"), errFull, "3 in custody: repl: there is no room to hold it", api.EFull},
	} {
		var a about
		if x.err == x.is || !errors.Is(x.err, x.is) || !errors.As(x.err, &a) || x.err.Error() != x.text || errno(x.err) != x.no {
			t.Errorf("%v is not %q, or not %v", x.err, x.text, x.is)
		}
		for _, other := range []error{errArg, errForm, errNone, errFull, errMax} {
			if other != x.is && errors.Is(x.err, other) {
				t.Errorf("%v is %v", x.err, other)
			}
		}
	}
	if errno(nil) != api.OK || checkNew(1, 1, 0) != nil || put(full, api.Version{Item: 1}) != nil || end(full, 1) != nil || checkFilter(full, "*") != nil {
		t.Error("an error where there is none")
	}
}

// roomy is r with spare room, that has something in it, behind each of its lists.
func roomy(r api.Repl) api.Repl {
	held := append(slices.Clone(r.Held), api.Version{Item: 77, Tag: "spare"}, api.Version{Item: 78})
	for i := range held {
		held[i].Attrs = spare(held[i].Attrs, attr(77, 78))
	}
	views := append(slices.Clone(r.Views), api.View{R: 77, Filter: "spare"}, api.View{R: 78})
	for i := range views {
		views[i].Seen = spare(views[i].Seen, head(77, 78, 79, 80))
		views[i].Epochs = spare(views[i].Epochs, 77)
	}
	r.Held, r.Views = held[:len(r.Held)], views[:len(r.Views)]
	return r
}

func spare[E any](l []E, e E) []E {
	more := append(slices.Clone(l), e, e)
	return more[:len(l)]
}

// opened is r with its spare room as part of each list.
func opened(r api.Repl) api.Repl {
	r.Held = slices.Clone(r.Held[:len(r.Held)+2])
	for i, v := range r.Held {
		r.Held[i].Attrs = v.Attrs[:len(v.Attrs)+2]
	}
	r.Views = slices.Clone(r.Views[:len(r.Views)+2])
	for i, v := range r.Views {
		r.Views[i].Seen, r.Views[i].Epochs = v.Seen[:len(v.Seen)+2], v.Epochs[:len(v.Epochs)+2]
	}
	return r
}

// turn writes over an answer and its spare room: what it shares with an argument is seen there.
func turn(r api.Repl) {
	turnRow(r.Held)
	r.Views = r.Views[:cap(r.Views)]
	for i, v := range r.Views {
		turnView(v)
		r.Views[i] = api.View{R: -1, Rev: -1, Filter: "turned"}
	}
}

func turnView(v api.View) {
	fill(v.Seen, head(-1, -1, -1, -1))
	fill(v.Epochs, -1)
}

func turnRow(l []api.Version) {
	l = l[:cap(l)]
	for i, v := range l {
		fill(v.Attrs, attr(-1, -1))
		l[i] = api.Version{Item: -1, Tag: "turned"}
	}
}

func fill[E any](l []E, e E) {
	l = l[:cap(l)]
	for i := range l {
		l[i] = e
	}
}

func TestNothingHandedInIsChangedOrKept(t *testing.T) {
	for _, base := range []api.Repl{amid(), at(amid(), 5000, 1000), begun(t, 2, 3, 1), {}, {ID: 2, Quota: 8}} {
		r, want := roomy(base), opened(roomy(base))
		for item := range 8 {
			for _, tag := range []string{"", "a", "ab", "x", "Q"} {
				attrs := spare([]api.Attr{attr(1, 2), attr(2, 3)}, attr(77, 78))
				x, v, _ := Put(r, item, attrs, tag, "b")
				fill(v.Attrs, attr(-1, -1))
				turn(x)
				if !slices.Equal(attrs[:4], []api.Attr{attr(1, 2), attr(2, 3), attr(77, 78), attr(77, 78)}) {
					t.Fatalf("the attributes are changed to %v", attrs[:4])
				}
			}
			x, v, _ := Delete(r, item)
			fill(v.Attrs, attr(-1, -1))
			turn(x)
			v, _ = Get(r, item)
			fill(v.Attrs, attr(-1, -1))
		}
		for _, text := range []string{"*", "^a", "^x", "!*", "", "^"} {
			x, _ := SetFilter(r, text)
			turn(x)
		}
		for _, f := range []api.Filter{all(), prefix("a"), not(prefix("a")), not(all())} {
			turnRow(Query(r, f))
		}
		turnView(Own(r))
		fill(Filter(r).Args, all())
		Same(r, r)
		wantRepl(t, "what was handed in", opened(r), want)
	}
}

func TestQueryLeavesItsFilter(t *testing.T) {
	f := or(prefix("a"), and(not(eq(1, 5)), between(0, 0, 9)))
	args := spare(f.Args, prefix("spare"))
	f.Args = args
	turnRow(Query(amid(), f))
	if !sameFilter(f, or(prefix("a"), and(not(eq(1, 5)), between(0, 0, 9)))) || !sameFilter(args[:3][2], prefix("spare")) {
		t.Errorf("the filter is changed to %v", f)
	}
}

// The version that is told and the one that is held share nothing.
func TestNoTwoListsOfAnAnswerShareMemory(t *testing.T) {
	attrs := []api.Attr{attr(0, 5), attr(1, 6)}
	heads := []api.Head{head(2, 3, 2, 1)}
	epochs := []int{1, 2, 3}
	r := amid()
	for i := range r.Held {
		r.Held[i].Attrs = attrs
	}
	for i := range r.Views {
		r.Views[i].Seen, r.Views[i].Epochs = heads, epochs
	}
	put, v, e := Put(r, 1, attrs, "a", "b")
	ended, w, f := Delete(r, 2)
	set, g := SetFilter(r, "*")
	no, _, h := Put(r, 0, attrs, "a", "b")
	if e != api.OK || f != api.OK || g != api.OK || h != api.EArg {
		t.Fatalf("%d, %d, %d, %d", e, f, g, h)
	}
	first, _ := New(2, 3, 1)
	second, _ := New(2, 3, 1)
	for i, l := range [][]api.Repl{{put, {Held: []api.Version{v}}}, {ended, {Held: []api.Version{w}}}, {set}, {no}, {first, second}} {
		marks := 0
		for _, r := range l {
			wantOwnMark(t, i, r, &marks, true)
		}
		marks = 0
		for _, r := range l {
			wantOwnMark(t, i, r, &marks, false)
		}
	}
	if attrs[0] != attr(0, 5) || heads[0] != head(2, 3, 2, 1) || epochs[0] != 1 {
		t.Error("what was handed in is changed")
	}
}

// wantOwnMark writes a number into each list of r, or asks for the one that was written there.
func wantOwnMark(t *testing.T, i int, r api.Repl, marks *int, write bool) {
	t.Helper()
	mark := func(n *int) {
		*marks++
		if write {
			*n = 1000 + *marks
		} else if *n != 1000+*marks {
			t.Errorf("answer %d: list %d shares its memory", i, *marks)
		}
	}
	for _, v := range r.Held {
		if len(v.Attrs) > 0 {
			mark(&v.Attrs[0].Val)
		}
	}
	for _, v := range r.Views {
		if len(v.Seen) > 0 {
			mark(&v.Seen[0].S.L)
		}
		if len(v.Epochs) > 0 {
			mark(&v.Epochs[0])
		}
	}
}

// The texts of an answer are new memory too, so that a small one does not keep a great one.
func TestTextsAreNewMemory(t *testing.T) {
	tag, body, text := strings.Repeat("a", 6), strings.Repeat("b", 12), strings.Repeat(" ", 20)+"^a"
	s := api.Stamp{L: 1, R: 1, N: 1}
	r := begun(t, 1, 2, 3)
	r.L, r.N = 1, 1
	r.Views[0].Filter = text
	r.Views[1].Filter = text
	r.Held = []api.Version{{Item: 2, S: s, Tag: tag, Body: body}}
	put, v, _ := Put(r, 3, nil, tag, body)
	ended, w, _ := Delete(r, 2)
	set, _ := SetFilter(r, text)
	noPut, _, _ := Put(r, 0, nil, tag, body)
	noDelete, _, _ := Delete(r, 3)
	noFilter, _ := SetFilter(r, "")
	got, _ := Get(r, 2)
	rows := [][]api.Version{{v, w, got}, Query(r, all())}
	views := [][]api.View{{Own(r)}}
	for _, x := range []api.Repl{put, ended, set, noPut, noDelete, noFilter} {
		rows, views = append(rows, x.Held), append(views, x.Views)
	}
	n := 0
	for _, v := range slices.Concat(rows...) {
		n++
		if v.Tag != tag || unsafe.StringData(v.Tag) == unsafe.StringData(tag) || v.Body != "" && unsafe.StringData(v.Body) == unsafe.StringData(body) {
			t.Errorf("version %v", v)
		}
	}
	for _, v := range slices.Concat(views...) {
		n++
		if v.Filter != text || unsafe.StringData(v.Filter) == unsafe.StringData(text) {
			t.Errorf("view %v", v)
		}
	}
	// The version that is told and the one that is held have their own.
	if unsafe.StringData(v.Tag) == unsafe.StringData(put.Held[1].Tag) || unsafe.StringData(w.Tag) == unsafe.StringData(ended.Held[0].Tag) {
		t.Error("two versions of one answer share a text")
	}
	if n != 4+7+13 {
		t.Errorf("%d texts", n)
	}
}

func TestNilAndEmptyAreOne(t *testing.T) {
	bare, empty := begun(t, 1, 2, 3), begun(t, 1, 2, 3)
	bare.Held, empty.Held = nil, []api.Version{}
	for i := range empty.Views {
		bare.Views[i].Seen, empty.Views[i].Seen = nil, []api.Head{}
	}
	empty.Views[1].Epochs = []int{}
	a, v, e := Put(bare, 3, nil, "a", "")
	b, w, f := Put(empty, 3, []api.Attr{}, "a", "")
	if e != api.OK || f != api.OK || !alike(v, w) {
		t.Errorf("Put: %v, %d; %v, %d", v, e, w, f)
	}
	wantRepl(t, "Put", a, b)
	a, e = SetFilter(bare, "^a")
	b, f = SetFilter(empty, "^a")
	if e != api.OK || f != api.OK {
		t.Errorf("SetFilter: %d, %d", e, f)
	}
	wantRepl(t, "SetFilter", a, b)
	wantNoDelete(t, empty, 3, api.ENone)
	wantNoPut(t, empty, api.Version{Item: 0}, api.EArg)
	if got := Query(empty, all()); len(got) != 0 || !Same(bare, empty) {
		t.Errorf("Query: %v", got)
	}
}

// ring is a filter that holds itself.
func ring(op int) api.Filter {
	args := make([]api.Filter, 2)
	args[0] = api.Filter{Op: op, Args: args}
	args[1] = api.Filter{Op: op, Args: args}
	return args[0]
}

// odd is replicas that may not be.
func odd() []api.Repl {
	made := func(change func(*api.Repl)) api.Repl {
		r := amid()
		change(&r)
		return r
	}
	return []api.Repl{
		{}, {ID: 1}, {ID: 1, Quota: 3}, {ID: 1, Views: []api.View{{}}}, {ID: 1, Quota: math.MaxInt, Views: []api.View{{}}},
		{ID: math.MinInt, L: math.MinInt, N: math.MinInt, Size: math.MinInt, Quota: math.MinInt},
		{ID: math.MaxInt, L: math.MaxInt, N: math.MaxInt, Size: math.MaxInt, Quota: math.MaxInt},
		made(func(r *api.Repl) { r.ID = 0 }), made(func(r *api.Repl) { r.ID = 4 }), made(func(r *api.Repl) { r.ID = -1 }),
		made(func(r *api.Repl) { r.ID = math.MinInt }), made(func(r *api.Repl) { r.ID = math.MaxInt }),
		made(func(r *api.Repl) { r.Views = nil }), made(func(r *api.Repl) { r.Views = r.Views[:1] }), made(func(r *api.Repl) { r.Views = make([]api.View, 1<<12) }),
		made(func(r *api.Repl) { r.Views[1].Epochs = nil }), made(func(r *api.Repl) { r.Views[1].Epochs = r.Views[1].Epochs[:1:1] }), made(func(r *api.Repl) { r.Views[1].Epochs = []int{math.MaxInt, math.MaxInt} }),
		made(func(r *api.Repl) { r.Views[1].Filter = "" }), made(func(r *api.Repl) { r.Views[1].Filter = "^" }), made(func(r *api.Repl) { r.Views[1].Filter = strings.Repeat("!", 1<<16) }), made(func(r *api.Repl) { r.Views[1].Filter = "\xff" }),
		made(func(r *api.Repl) { r.Views[1].Rev = math.MaxInt }), made(func(r *api.Repl) { r.Views[1].Rev = math.MinInt }), made(func(r *api.Repl) { r.Views[1].R = 0 }),
		made(func(r *api.Repl) { slices.Reverse(r.Views) }), made(func(r *api.Repl) { slices.Reverse(r.Views[1].Seen) }), made(func(r *api.Repl) { r.Views[1].Seen = make([]api.Head, 9) }),
		made(func(r *api.Repl) { slices.Reverse(r.Held) }), made(func(r *api.Repl) { r.Held = make([]api.Version, 9) }), made(func(r *api.Repl) { r.Held = slices.Repeat(r.Held, 1<<8) }),
		made(func(r *api.Repl) { r.Held[0] = api.Version{Item: math.MinInt, Tag: strings.Repeat("\xff", 1<<12)} }),
		made(func(r *api.Repl) { r.Held[0].Attrs = make([]api.Attr, 1<<12) }),
		made(func(r *api.Repl) { r.Held[0].S.L = math.MaxInt }),
		made(func(r *api.Repl) { r.L = 0 }), made(func(r *api.Repl) { r.L, r.N = 1, 0 }),
		made(func(r *api.Repl) { r.Quota = -1 }), made(func(r *api.Repl) { r.Quota = math.MinInt }), made(func(r *api.Repl) { r.Quota = math.MaxInt }),
		made(func(r *api.Repl) { r.Size = 0 }),
	}
}

// Nothing is promised of such replicas, but that each call ends, changes nothing, and tells the same each time; and what R2 says of refusals.
func TestReplicasThatMayNotBe(t *testing.T) {
	deep := prefix("a")
	for range 1 << 12 {
		deep = not(deep)
	}
	for i, r := range odd() {
		was := copyOf(r)
		for _, item := range []int{math.MinInt, 0, 2, 3, 4, 6, 7, math.MaxInt} {
			for _, tag := range []string{"a", "x", "\xff"} {
				x, v, e := Put(r, item, []api.Attr{attr(1, 5)}, tag, "b")
				y, w, f := Put(r, item, []api.Attr{attr(1, 5)}, tag, "b")
				if e != f || !alike(v, w) || !alikeRepl(x, y) || e != api.OK && (!alikeRepl(x, was) || !alike(v, api.Version{})) {
					t.Errorf("%d: Put of %d, %q: %d, %d", i, item, tag, e, f)
				}
			}
			x, v, e := Delete(r, item)
			y, w, f := Delete(r, item)
			if e != f || !alike(v, w) || !alikeRepl(x, y) || e != api.OK && (!alikeRepl(x, was) || !alike(v, api.Version{})) {
				t.Errorf("%d: Delete of %d: %d, %d", i, item, e, f)
			}
			v, ok := Get(r, item)
			w, again := Get(r, item)
			if ok != again || !alike(v, w) || !ok && !alike(v, api.Version{}) {
				t.Errorf("%d: Get of %d", i, item)
			}
		}
		for _, text := range []string{"*", "^a", "!*", "", "^", "\xff"} {
			x, e := SetFilter(r, text)
			y, f := SetFilter(r, text)
			if e != f || !alikeRepl(x, y) || e != api.OK && !alikeRepl(x, was) {
				t.Errorf("%d: SetFilter to %q: %d, %d", i, text, e, f)
			}
		}
		for j, f := range []api.Filter{{}, {Op: -1}, {Op: math.MaxInt}, {Op: api.And}, {Op: api.Not, Args: make([]api.Filter, 9)}, prefix(""), eq(-1, -1), deep, ring(api.And), ring(api.Or), ring(api.Not)} {
			if a, b := Query(r, f), Query(r, f); !slices.EqualFunc(a, b, alike) || len(a) > len(r.Held) {
				t.Errorf("%d: Query of filter %d", i, j)
			}
		}
		if !alikeView(Own(r), Own(r)) || !sameFilter(Filter(r), Filter(r)) || !Same(r, was) {
			t.Errorf("%d: not the same each time", i)
		}
		if !alikeRepl(r, was) {
			t.Errorf("replica %d is changed", i)
		}
	}
}

// One that has no view of its own has no filter either, so it holds what it wants in custody alone, if at all.
func TestReplicasWithoutAViewOfTheirOwn(t *testing.T) {
	for _, id := range []int{math.MinInt, -1, 0, 4, math.MaxInt} {
		r := amid()
		r.ID = id
		if got := Own(r); !alikeView(got, api.View{}) || !sameFilter(Filter(r), api.Filter{}) || len(Query(r, all())) != 0 {
			t.Errorf("%d: %v", id, got)
		}
		x, e := SetFilter(r, "*")
		if e != api.OK {
			t.Errorf("%d: %d", id, e)
		}
		wantRepl(t, "SetFilter", x, r)
	}
}
