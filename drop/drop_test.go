package drop

import (
	"math"
	"slices"
	"strings"
	"testing"
	"unsafe"

	"cardamom/api"
	"cardamom/hold"
	"cardamom/offer"
	"cardamom/repl"
	"cardamom/view"
)

func attr(key, val int) api.Attr { return api.Attr{Key: key, Val: val} }

func stampOf(l, r, n int) api.Stamp { return api.Stamp{L: l, R: r, N: n} }

func head(item, l, r, n int) api.Head { return api.Head{Item: item, S: stampOf(l, r, n)} }

// alike, alikeView and alikeRepl are apart from the program's, so that a fault there is not hidden here.
func alike(a, b api.Version) bool {
	return a.Item == b.Item && a.S == b.S && a.Dead == b.Dead && slices.Equal(a.Attrs, b.Attrs) && a.Tag == b.Tag && a.Body == b.Body
}

func alikeView(a, b api.View) bool {
	return a.R == b.R && a.Rev == b.Rev && a.Filter == b.Filter && slices.Equal(a.Seen, b.Seen) && slices.Equal(a.Epochs, b.Epochs)
}

func alikeRepl(a, b api.Repl) bool {
	return a.ID == b.ID && a.Size == b.Size && a.L == b.L && a.N == b.N && a.Quota == b.Quota &&
		slices.EqualFunc(a.Held, b.Held, alike) && slices.EqualFunc(a.Views, b.Views, alikeView)
}

func begun(t *testing.T, id, size, quota int) api.Repl {
	t.Helper()
	r, ok := repl.New(id, size, quota)
	if !ok {
		t.Fatalf("repl.New(%d, %d, %d): no", id, size, quota)
	}
	return r
}

func mustPut(t *testing.T, r api.Repl, item int, tag string) api.Repl {
	t.Helper()
	r, _, e := repl.Put(r, item, nil, tag, "body")
	if e != api.OK {
		t.Fatalf("repl.Put of %d, %q: %d", item, tag, e)
	}
	return r
}

func mustDelete(t *testing.T, r api.Repl, item int) api.Repl {
	t.Helper()
	r, _, e := repl.Delete(r, item)
	if e != api.OK {
		t.Fatalf("repl.Delete of %d: %d", item, e)
	}
	return r
}

func mustFilter(t *testing.T, r api.Repl, text string) api.Repl {
	t.Helper()
	r, e := repl.SetFilter(r, text)
	if e != api.OK {
		t.Fatalf("repl.SetFilter to %q: %d", text, e)
	}
	return r
}

func copyOf(r api.Repl) api.Repl {
	r.Held = slices.Clone(r.Held)
	for i := range r.Held {
		r.Held[i].Attrs = slices.Clone(r.Held[i].Attrs)
	}
	r.Views = slices.Clone(r.Views)
	for i := range r.Views {
		r.Views[i].Seen = slices.Clone(r.Views[i].Seen)
		r.Views[i].Epochs = slices.Clone(r.Views[i].Epochs)
	}
	return r
}

// wantKnown asks for the answer, and for what was handed in as it was.
func wantKnown(t *testing.T, what string, r api.Repl, v api.Version, want bool) {
	t.Helper()
	was, attrs := copyOf(r), slices.Clone(v.Attrs)
	if got := Known(r, v); got != want {
		t.Errorf("%s: Known(%v, %v): %v", what, r, v, got)
	}
	if !alikeRepl(r, was) || !slices.Equal(v.Attrs, attrs) {
		t.Errorf("%s: what was handed in is changed to %v, %v", what, r, v)
	}
}

// wantSwept asks for r without these things, and else as it was; for that again, if it is swept again; and for what was handed in as it was.
func wantSwept(t *testing.T, what string, r api.Repl, things ...int) {
	t.Helper()
	was, want := copyOf(r), copyOf(r)
	want.Held = slices.DeleteFunc(want.Held, func(v api.Version) bool { return slices.Contains(things, v.Item) })
	if len(want.Held) != len(r.Held)-len(things) {
		t.Fatalf("%s: not all of %v are held", what, things)
	}
	got := Sweep(r)
	if !alikeRepl(got, want) {
		t.Errorf("%s: Sweep(%v): %v, not %v", what, r, got, want)
	}
	if again := Sweep(got); !alikeRepl(again, want) {
		t.Errorf("%s: what was swept, swept: %v, not %v", what, again, want)
	}
	if !alikeRepl(r, was) {
		t.Errorf("%s: what was handed in is changed to %v", what, r)
	}
}

// amid is replica 2 of 3, that holds in store what is Known (1) and what is not (2), in custody what is Known (3, 5) and what is not (4: 3 has seen one ahead of it; 6: none keeps it); 5 and 6 are Dead.
func amid() api.Repl {
	return api.Repl{
		ID: 2, Size: 3, L: 11, N: 6, Quota: 4,
		Held: []api.Version{
			{Item: 1, S: stampOf(3, 2, 1), Attrs: []api.Attr{attr(1, 5)}, Tag: "ab", Body: "one"},
			{Item: 2, S: stampOf(7, 3, 4), Tag: "ac"},
			{Item: 3, S: stampOf(5, 2, 2), Tag: "b", Body: "\x00\xff"},
			{Item: 4, S: stampOf(9, 1, 4), Attrs: []api.Attr{attr(0, 7), attr(3, 99)}, Tag: "bbbbbb", Body: "twelve bytes"},
			{Item: 5, S: stampOf(8, 2, 3), Dead: true, Attrs: []api.Attr{attr(1, 5), attr(2, 0)}, Tag: "x"},
			{Item: 6, S: stampOf(6, 3, 3), Dead: true, Tag: "c"},
		},
		Views: []api.View{
			{R: 1, Rev: 41, Filter: "^b | @1=5", Seen: []api.Head{head(1, 3, 2, 1), head(2, 7, 3, 4), head(3, 5, 2, 2), head(4, 9, 1, 4), head(5, 8, 2, 3), head(6, 6, 3, 3)}, Epochs: []int{4, 2, 6}},
			{R: 2, Rev: 30, Filter: " ^a", Seen: []api.Head{head(1, 3, 2, 1), head(2, 7, 3, 4), head(3, 5, 2, 2), head(4, 9, 1, 4), head(5, 8, 2, 3), head(6, 6, 3, 3)}, Epochs: []int{4, 2, 5}},
			{R: 3, Rev: 7, Filter: "^zz", Seen: []api.Head{head(1, 4, 1, 1), head(3, 5, 2, 2), head(4, 9, 1, 3), head(5, 10, 1, 5), head(6, 6, 3, 3)}, Epochs: []int{5, 2, 5}},
		},
	}
}

func TestAmid(t *testing.T) {
	r := amid()
	for i, want := range []bool{true, false, true, false, true, false} {
		wantKnown(t, "amid", r, r.Held[i], want)
	}
	wantSwept(t, "amid", r, 3, 5)
}

// others is replica id of size, that holds one in custody which all have seen; each other one keeps it. Epochs are unlike.
func others(id, size int) (api.Repl, api.Version) {
	v := api.Version{Item: 3, S: stampOf(5, 3, 4), Attrs: []api.Attr{attr(1, 5)}, Tag: "b", Body: "body"}
	r := api.Repl{ID: id, Size: size, L: 20, N: 7, Quota: 8, Held: []api.Version{v}}
	for n := 1; n <= size; n++ {
		w := api.View{R: n, Rev: 10 + n, Filter: "^b", Seen: []api.Head{head(1, 9, 1, 2), {Item: 3, S: v.S}, head(6, 1, 1, 1)}, Epochs: []int{3, 1, 4, 2, 999999}[:size]}
		if n == id {
			w.Filter = "^a"
		}
		w.Epochs = slices.Clone(w.Epochs)
		r.Views = append(r.Views, w)
	}
	return r, v
}

// wantBoth asks for Known of the one that others tells, and for a Sweep that goes by it.
func wantBoth(t *testing.T, what string, r api.Repl, v api.Version, want bool) {
	t.Helper()
	wantKnown(t, what, r, v, want)
	if want {
		wantSwept(t, what, r, v.Item)
	} else {
		wantSwept(t, what, r)
	}
}

// each hands over each replica of each size but one, and each whose view may be turned, the own one among them.
func each(f func(id, size, n int)) {
	for size := 2; size <= api.MaxRepl; size++ {
		for id := 1; id <= size; id++ {
			for n := 1; n <= size; n++ {
				f(id, size, n)
			}
		}
	}
}

func TestRevOfEachView(t *testing.T) {
	each(func(id, size, n int) {
		for _, rev := range []int{math.MinInt, -1, 0, 1, 2, 1000000} {
			r, v := others(id, size)
			r.Views[n-1].Rev = rev
			wantBoth(t, "Rev", r, v, rev > 0)
		}
		r, v := others(id, size)
		r.Views[n-1] = api.View{R: n}
		wantBoth(t, "nothing is known of one", r, v, false)
	})
}

func TestNothingIsKnownOfOthers(t *testing.T) {
	for size := 2; size <= api.MaxRepl; size++ {
		r := mustFilter(t, mustPut(t, begun(t, size, size, 1), 4, "b"), "^a")
		wantBoth(t, "nothing is known of others", r, r.Held[0], false)
		r = mustFilter(t, r, "*")
		wantBoth(t, "nothing is known of others, in store", r, r.Held[0], false)
	}
}

// Each place of each view in turn is the same as the own view's, below it, above it.
func TestEpochsOfEachView(t *testing.T) {
	each(func(id, size, n int) {
		for place := range size {
			for _, by := range []int{-4, -1, 0, 1, 5, 1000} {
				r, v := others(id, size)
				r.Views[n-1].Epochs[place] += by
				want := by >= 0
				if n == id {
					// If the own view knows of more the others are below it.
					want = by <= 0
				}
				wantBoth(t, "Epochs", r, v, want)
			}
		}
	})
}

// What is above at one place does not make up for what is below at another.
func TestEpochsAboveAndBelow(t *testing.T) {
	each(func(id, size, n int) {
		for up := range size {
			for down := range size {
				if up == down {
					continue
				}
				r, v := others(id, size)
				r.Views[n-1].Epochs[up] += 9
				r.Views[n-1].Epochs[down]--
				wantBoth(t, "one above, one below", r, v, false)
				r, v = others(id, size)
				for i := range r.Views {
					if i != id-1 {
						r.Views[i].Epochs[up] += 9
					}
				}
				wantBoth(t, "all others above", r, v, true)
				if n != id {
					r.Views[n-1].Epochs[down]--
					wantBoth(t, "all others above, one below", r, v, false)
				}
			}
		}
	})
}

func TestEpochsOfNought(t *testing.T) {
	each(func(id, size, n int) {
		r, v := others(id, size)
		for i := range r.Views {
			clear(r.Views[i].Epochs)
		}
		wantBoth(t, "all nought", r, v, true)
		for place := range size {
			x := copyOf(r)
			x.Views[n-1].Epochs[place] = 1
			wantBoth(t, "one above nought", x, v, n != id)
		}
	})
}

// looks is what may be seen beside one of thing 3 with the stamp 5, 3, 4, and whether it is that or a later one.
func looks() []look {
	return []look{
		{"nothing", nil, false},
		{"nothing, in an empty list", []api.Head{}, false},
		{"the same stamp", []api.Head{head(3, 5, 3, 4)}, true},
		{"a lesser L", []api.Head{head(3, 4, 3, 4)}, false},
		{"a lesser L, a greater R", []api.Head{head(3, 4, 5, 4)}, false},
		{"a lesser R", []api.Head{head(3, 5, 2, 4)}, false},
		{"a lesser R, a greater N", []api.Head{head(3, 5, 2, 5)}, false},
		{"a lesser N", []api.Head{head(3, 5, 3, 3)}, false},
		{"the least", []api.Head{head(3, 1, 1, 1)}, false},
		{"a greater L", []api.Head{head(3, 6, 3, 4)}, true},
		{"a greater L, a lesser R and N", []api.Head{head(3, 6, 1, 1)}, true},
		{"a greater R", []api.Head{head(3, 5, 4, 4)}, true},
		{"a greater R, a lesser N", []api.Head{head(3, 5, 4, 1)}, true},
		{"a greater N", []api.Head{head(3, 5, 3, 5)}, true},
		{"the greatest", []api.Head{head(3, 5000, 5, 1000)}, true},
		{"other things, later", []api.Head{head(1, 9, 3, 4), head(2, 9, 3, 4), head(4, 9, 3, 4), head(6, 9, 3, 4)}, false},
		{"other things, of the same stamp", []api.Head{head(2, 5, 3, 4), head(4, 5, 3, 4)}, false},
		{"other things later, it lesser", []api.Head{head(2, 9, 3, 4), head(3, 4, 3, 4), head(4, 9, 3, 4)}, false},
		{"other things lesser, it the same", []api.Head{head(2, 1, 1, 1), head(3, 5, 3, 4), head(4, 1, 1, 1)}, true},
	}
}

type look struct {
	what string
	seen []api.Head
	has  bool
}

func TestSeenOfEachView(t *testing.T) {
	each(func(id, size, n int) {
		for _, x := range looks() {
			for _, dead := range []bool{false, true} {
				r, v := others(id, size)
				v.Dead = dead
				r.Held[0] = v
				r.Views[n-1].Seen = slices.Clone(x.seen)
				wantBoth(t, x.what, r, v, x.has)
			}
		}
	})
}

func TestSeenOfAllViews(t *testing.T) {
	for _, x := range looks() {
		r, v := others(2, 4)
		for i := range r.Views {
			r.Views[i].Seen = slices.Clone(x.seen)
		}
		wantBoth(t, x.what, r, v, x.has)
	}
}

// Each set of replicas whose filters let it through: what one keeps is Known, and stays where that is the own one.
func TestFiltersOfEachSet(t *testing.T) {
	let := []string{"*", "^b", "@1=5", "!^a", "^a|@1:0-9"}
	not := []string{"!*", "^a", "@1=4", "!^b", "^a&*"}
	for size := 1; size <= api.MaxRepl; size++ {
		for id := 1; id <= size; id++ {
			for set := range 1 << size {
				for turn := range len(let) {
					r, v := others(id, size)
					for i := range r.Views {
						r.Views[i].Filter = not[(i+turn)%len(not)]
						if set>>i&1 == 1 {
							r.Views[i].Filter = let[(i+turn)%len(let)]
						}
					}
					wantKnown(t, "filters", r, v, set != 0)
					if set != 0 && set>>(id-1)&1 == 0 {
						wantSwept(t, "filters", r, 3)
					} else {
						wantSwept(t, "filters", r)
					}
				}
			}
		}
	}
}

// What it is that lets a version through: the filter is asked of the one that is handed in, whatever is held.
func TestFilterOfTheVersion(t *testing.T) {
	for _, x := range []struct {
		filter string
		v      api.Version
		want   bool
	}{
		{"^b", api.Version{Tag: "b"}, true},
		{"^b", api.Version{Tag: "bcd", Dead: true}, true},
		{"^b", api.Version{Tag: "ab", Body: "b"}, false},
		{"^b", api.Version{}, false},
		{"!^b", api.Version{}, true},
		{"!^b", api.Version{Tag: "b"}, false},
		{"@0=0", api.Version{Attrs: []api.Attr{attr(0, 0)}}, true},
		{"@0=0", api.Version{}, false},
		{"!@0=0", api.Version{}, true},
		{"@2:3-5", api.Version{Attrs: []api.Attr{attr(2, 3)}}, true},
		{"@2:3-5", api.Version{Attrs: []api.Attr{attr(1, 4), attr(2, 5)}}, true},
		{"@2:3-5", api.Version{Attrs: []api.Attr{attr(2, 6), attr(3, 4)}, Dead: true}, false},
		{"^b&@1=5", api.Version{Tag: "b", Attrs: []api.Attr{attr(1, 5)}}, true},
		{"^b&@1=5", api.Version{Tag: "b"}, false},
		{"^b|@1=5", api.Version{Tag: "b"}, true},
		{" ! ( ^b | @1 = 5 ) ", api.Version{Tag: "c"}, true},
	} {
		x.v.Item, x.v.S = 3, stampOf(5, 3, 4)
		r, _ := others(1, 3)
		for i := range r.Views {
			r.Views[i].Filter = "!*"
		}
		r.Views[2].Filter = x.filter
		wantKnown(t, x.filter, r, x.v, x.want)
		r.Held = nil
		wantKnown(t, x.filter, r, x.v, x.want)
		r.Held = []api.Version{x.v}
		wantBoth(t, x.filter, r, x.v, x.want)
	}
}

// One that is not held may be Known too: it hangs on what the views tell.
func TestKnownOfWhatIsNotHeld(t *testing.T) {
	r, v := others(2, 3)
	older, later, other := v, v, v
	older.S, later.S, other.Item = stampOf(5, 3, 3), stampOf(5, 4, 1), 2
	for _, held := range [][]api.Version{nil, {v}, {later}, {other}} {
		r.Held = held
		wantKnown(t, "that one", r, v, true)
		wantKnown(t, "an older one", r, older, true)
		wantKnown(t, "a later one", r, later, false)
		wantKnown(t, "one of another thing", r, other, false)
	}
}

// What else the replica has does not count: neither its time and numbers, nor its Quota.
func TestNumbersOfTheReplicaDoNotCount(t *testing.T) {
	for _, n := range []int{0, 1, 8, 1000} {
		r, v := others(1, 2)
		r.L, r.N, r.Quota = 5*n, n, min(n, api.MaxQuota)
		wantBoth(t, "Known", r, v, true)
		r.Views[1].Filter = "^c"
		wantBoth(t, "not Known", r, v, false)
	}
}

// One replica alone: what its filter does not let through stays.
func TestOneAlone(t *testing.T) {
	r := begun(t, 1, 1, 8)
	wantSwept(t, "nothing held", r)
	for item := 1; item <= api.MaxItem; item++ {
		r = mustPut(t, r, item, []string{"a", "b", ""}[item%3])
	}
	r = mustDelete(t, mustDelete(t, r, 3), 4)
	for _, text := range []string{"*", "^a", "^b", "!*", "^q", "!^a&!^b"} {
		r = mustFilter(t, r, text)
		for _, v := range r.Held {
			wantKnown(t, text, r, v, lets(text, v))
		}
		wantSwept(t, text, r)
	}
}

func TestSweepOfNothingHeld(t *testing.T) {
	for size := 1; size <= api.MaxRepl; size++ {
		for id := 1; id <= size; id++ {
			wantSwept(t, "begun", begun(t, id, size, 3))
			r, _ := others(id, size)
			r.Held = nil
			wantSwept(t, "nothing held", r)
		}
	}
}

// All that is held may go, or none of it.
func TestSweepOfAllAndNone(t *testing.T) {
	r, v := others(3, 4)
	r.Held = nil
	var things []int
	for item := 1; item <= api.MaxItem; item++ {
		v.Item, v.S = item, stampOf(30-item, 2, 1)
		v.Dead = item%2 == 0
		r.Held = append(r.Held, v)
		things = append(things, item)
	}
	for i := range r.Views {
		r.Views[i].Seen = hold.Heads(r.Held)
	}
	wantSwept(t, "all in custody", r, things...)
	x := copyOf(r)
	x.Views[2].Filter = "^b"
	wantSwept(t, "all in store", x)
	x = copyOf(r)
	x.Views[3].Epochs[2]--
	wantSwept(t, "one is behind", x)
	for cut := range api.MaxItem + 1 {
		x = copyOf(r)
		x.Views[0].Seen = x.Views[0].Seen[:cut]
		wantSwept(t, "one has seen the first", x, things[:cut]...)
		x = copyOf(r)
		x.Views[1].Seen = x.Views[1].Seen[cut:]
		wantSwept(t, "one has seen the last", x, things[cut:]...)
	}
}

// What is to be of a thing. Of what is in custody and Known alone nothing stays.
const (
	notHeld = iota
	storeKnown
	storeUnknown
	custodyKnown
	custodyUnseen
	custodyUnkept
	states
)

// Each state of each of six things, Dead or not.
func TestEachStateOfSixThings(t *testing.T) {
	for n := range states * states * states * states * states * states {
		r := api.Repl{ID: 2, Size: 3, L: 40, N: 9, Quota: 8, Views: []api.View{
			{R: 1, Rev: 3, Filter: "^b", Epochs: []int{0, 3, 1}},
			{R: 2, Rev: 9, Filter: "^a", Epochs: []int{0, 2, 0}},
			{R: 3, Rev: 1, Filter: "!*", Epochs: []int{0, 2, 0}},
		}}
		var things []int
		left := n
		for item := 1; item <= 6; item++ {
			state := left % states
			left /= states
			v := api.Version{Item: item, S: stampOf(30-3*item, 1+item%3, 2), Dead: (n+item)%2 == 0, Tag: []string{"b", "a", "aa", "b", "bb", "c"}[state]}
			h := api.Head{Item: item, S: v.S}
			if state != notHeld {
				r.Held = append(r.Held, v)
			}
			r.Views[0].Seen, r.Views[1].Seen = append(r.Views[0].Seen, h), append(r.Views[1].Seen, h)
			switch state {
			case storeUnknown, custodyUnseen:
				if n%2 == 0 {
					continue
				}
				h.S.N--
			case custodyKnown:
				things = append(things, item)
				h.S.L += n % 2
			}
			r.Views[2].Seen = append(r.Views[2].Seen, h)
		}
		wantSwept(t, "states", r, things...)
		if t.Failed() {
			return
		}
	}
}

// lets tells by itself what the filters of these tests let through.
func lets(text string, v api.Version) bool {
	one := -1
	for _, a := range v.Attrs {
		if a.Key == 1 {
			one = a.Val
		}
	}
	a, b := strings.HasPrefix(v.Tag, "a"), strings.HasPrefix(v.Tag, "b")
	switch text {
	case "*":
		return true
	case "!*", "^q":
		return false
	case "^a":
		return a
	case "^b":
		return b
	case "!^a":
		return !a
	case "!^a&!^b":
		return !a && !b
	case "@1:2-9":
		return 2 <= one && one <= 9
	}
	panic("a filter that is not one of these: " + text)
}

// row is a stamp's place in the row of all: a number for each, so that it is reckoned apart from the program.
func row(s api.Stamp) int { return (s.L*10+s.R)*10000 + s.N }

// known is Known by the promise's words.
func known(r api.Repl, v api.Version) bool {
	kept := false
	for _, w := range r.Views {
		last := 0
		for _, h := range w.Seen {
			if h.Item == v.Item {
				last = row(h.S)
			}
		}
		if w.Rev < 1 || last < row(v.S) {
			return false
		}
		for i, n := range w.Epochs {
			if n < r.Views[r.ID-1].Epochs[i] {
				return false
			}
		}
		kept = kept || lets(w.Filter, v)
	}
	return kept
}

// swept is the things that go, by the promise's words.
func swept(r api.Repl) (things []int) {
	for _, v := range r.Held {
		if !lets(r.Views[r.ID-1].Filter, v) && known(r, v) {
			things = append(things, v.Item)
		}
	}
	return things
}

// chance tells numbers that hang on nothing but how often it was asked.
type chance int

func (c *chance) below(n int) int {
	*c = *c * 48271 % (1<<31 - 1)
	return int(*c) / 7 % n
}

// world is replicas that tell one another what they have, on ways on which much is lost, comes late, and twice; and of each thing what was written last.
type world struct {
	chance
	l    []api.Repl
	fly  []api.Gossip
	last map[int]api.Version
	gone int
}

// take is what r is behind what another one told it: the words of doc/15-take.md, but for the Sweep.
func take(r api.Repl, g api.Gossip) api.Repl {
	was := repl.Own(r)
	for _, v := range g.Views {
		if v.R != r.ID && v.Rev > r.Views[v.R-1].Rev {
			r.Views[v.R-1] = v
		}
	}
	own := &r.Views[r.ID-1]
	if epochs := view.Epochs(r.Views, r.Size); !slices.Equal(epochs, was.Epochs) {
		own.Epochs, own.Seen = epochs, hold.Heads(r.Held)
	}
	for _, v := range g.Batch {
		r.L = max(r.L, v.S.L)
		i := slices.IndexFunc(own.Seen, func(h api.Head) bool { return h.Item == v.Item })
		if i >= 0 && row(own.Seen[i].S) >= row(v.S) {
			continue
		}
		if !lets(own.Filter, v) && len(hold.Out(hold.Without(r.Held, v.Item), repl.Filter(r))) >= r.Quota {
			continue
		}
		r.Held = hold.Put(r.Held, v)
		if i < 0 {
			i = len(own.Seen)
			own.Seen = append(own.Seen, api.Head{})
		}
		own.Seen[i] = api.Head{Item: v.Item, S: v.S}
		slices.SortFunc(own.Seen, func(a, b api.Head) int { return a.Item - b.Item })
	}
	if !slices.Equal(own.Epochs, was.Epochs) || !slices.Equal(own.Seen, was.Seen) {
		own.Rev++
	}
	return r
}

// wrote keeps what was written, if it is the last.
func (w *world) wrote(v api.Version, e api.Errno) {
	if e == api.OK && row(w.last[v.Item].S) < row(v.S) {
		w.last[v.Item] = v
	}
}

// sweep sweeps replica number i, and asks for what is to go by the words.
func (w *world) sweep(t *testing.T, i int) {
	t.Helper()
	things := swept(w.l[i])
	wantSwept(t, "a run", w.l[i], things...)
	w.gone += len(things)
	w.l[i] = Sweep(w.l[i])
}

// step does one thing: a write, a filter, a telling, or what becomes of what was told.
func (w *world) step(t *testing.T) {
	t.Helper()
	i, item := w.below(len(w.l)), 1+w.below(api.MaxItem)
	var v api.Version
	var e api.Errno
	switch w.below(16) {
	case 0:
		w.l[i], _ = repl.SetFilter(w.l[i], []string{"*", "^a", "^b", "!^a", "!*", "@1:2-9"}[w.below(6)])
	case 1:
		w.l[i], v, e = repl.Delete(w.l[i], item)
		w.wrote(v, e)
	case 2:
		w.l[i], v, e = repl.Put(w.l[i], item, []api.Attr{attr(1, w.below(12))}, []string{"", "a", "ab", "b"}[w.below(4)], "body")
		w.wrote(v, e)
	case 3:
		w.sweep(t, i)
	case 4, 5, 6, 7, 8, 9:
		if g, ok := offer.To(w.l[i], 1+w.below(len(w.l)), 1+w.below(4)); ok && len(w.fly) < 12 {
			w.fly = append(w.fly, g)
		}
	default:
		if len(w.fly) == 0 {
			return
		}
		n := w.below(len(w.fly))
		g := w.fly[n]
		// One in four stays on its way, and comes again; one in four is lost.
		fate := w.below(4)
		if fate > 0 {
			w.fly = slices.Delete(w.fly, n, n+1)
		}
		if fate < 3 {
			w.l[g.To-1] = take(copyOf(w.l[g.To-1]), g)
			w.sweep(t, g.To-1)
		}
	}
}

// wantNothingLost is W2: of each thing some replica holds what was written last.
func (w *world) wantNothingLost(t *testing.T) {
	t.Helper()
	for item, v := range w.last {
		if !slices.ContainsFunc(w.l, func(r api.Repl) bool {
			return slices.ContainsFunc(r.Held, func(x api.Version) bool { return alike(x, v) })
		}) {
			t.Errorf("of thing %d none holds %v: %v", item, v, w.l)
		}
	}
}

// Whatever is written, set, told, lost, late, twice: Known and Sweep are what is reckoned plainly, and nothing is lost.
func TestRunsAgainstTheWordsAndW2(t *testing.T) {
	gone, yes, no := 0, 0, 0
	for run := range 240 {
		size := 2 + run%3
		w := world{chance: chance(1 + run), last: map[int]api.Version{}}
		for id := 1; id <= size; id++ {
			w.l = append(w.l, begun(t, id, size, []int{8, 1, 2, 0, 8}[(id+run)%5]))
		}
		for range 300 {
			w.step(t)
			r := w.l[w.below(size)]
			for _, v := range w.last {
				want := known(r, v)
				wantKnown(t, "a run", r, v, want)
				if want {
					yes++
				} else {
					no++
				}
			}
			w.wantNothingLost(t)
			if t.Failed() {
				t.Fatalf("run %d", run)
			}
		}
		gone += w.gone
	}
	if gone < 300 || yes < 3000 || no < 3000 {
		t.Errorf("%d are gone, %d times one was Known, %d times not", gone, yes, no)
	}
}

// What went is wanted again by one who sets its filter: it gets it of the one that keeps it.
func TestWhatWentComesAgain(t *testing.T) {
	l := []api.Repl{begun(t, 1, 2, 8), begun(t, 2, 2, 8)}
	tell := func(from, to int) {
		t.Helper()
		g, ok := offer.To(l[from-1], to, 4)
		if !ok {
			t.Fatalf("offer.To from %d to %d: no", from, to)
		}
		l[to-1] = Sweep(take(copyOf(l[to-1]), g))
	}
	l[0] = mustPut(t, mustFilter(t, l[0], "^a"), 1, "b")
	wantSwept(t, "ahead of telling", l[0])
	tell(1, 2)
	wantSwept(t, "told, and nothing heard of it", l[0])
	tell(2, 1)
	if len(l[0].Held) != 0 || len(l[1].Held) != 1 {
		t.Fatalf("%v, %v", l[0], l[1])
	}
	l[0] = mustFilter(t, l[0], "*")
	l[1] = mustFilter(t, l[1], "^q")
	wantSwept(t, "the other one set its filter too", l[1])
	tell(2, 1)
	wantSwept(t, "the other one knows of an old filter alone", l[1])
	tell(1, 2)
	tell(2, 1)
	tell(1, 2)
	if len(l[0].Held) != 1 || len(l[1].Held) != 0 {
		t.Errorf("%v, %v", l[0], l[1])
	}
}

// roomy is r with spare room, that has something in it, behind each of its lists.
func roomy(r api.Repl) api.Repl {
	held := append(slices.Clone(r.Held), api.Version{Item: 6, S: stampOf(1, 1, 1), Tag: "spare"}, api.Version{Item: 78})
	for i := range held {
		held[i].Attrs = spare(held[i].Attrs, attr(77, 78))
	}
	views := append(slices.Clone(r.Views), api.View{R: 4, Rev: 1, Filter: "spare"}, api.View{R: 78})
	for i := range views {
		views[i].Seen = spare(views[i].Seen, head(5, 78, 79, 80))
		views[i].Epochs = spare(views[i].Epochs, 77)
	}
	r.Held, r.Views = held[:len(r.Held)], views[:len(r.Views)]
	return r
}

func spare[E any](l []E, e E) []E {
	more := append(slices.Clone(l), e, e)
	return more[:len(l)]
}

// opened is r with its spare room as part of each list.
func opened(r api.Repl) api.Repl {
	r.Held = slices.Clone(r.Held[:len(r.Held)+2])
	for i, v := range r.Held {
		r.Held[i].Attrs = v.Attrs[:len(v.Attrs)+2]
	}
	r.Views = slices.Clone(r.Views[:len(r.Views)+2])
	for i, v := range r.Views {
		r.Views[i].Seen, r.Views[i].Epochs = v.Seen[:len(v.Seen)+2], v.Epochs[:len(v.Epochs)+2]
	}
	return r
}

// turn writes over an answer and its spare room: what it shares with an argument is seen there.
func turn(r api.Repl) {
	held := r.Held[:cap(r.Held)]
	for i, v := range held {
		fill(v.Attrs, attr(-1, -1))
		held[i] = api.Version{Item: -1, Tag: "turned"}
	}
	views := r.Views[:cap(r.Views)]
	for i, v := range views {
		fill(v.Seen, head(-1, -1, -1, -1))
		fill(v.Epochs, -1)
		views[i] = api.View{R: -1, Rev: -1, Filter: "turned"}
	}
}

func fill[E any](l []E, e E) {
	l = l[:cap(l)]
	for i := range l {
		l[i] = e
	}
}

func TestNothingHandedInIsChangedOrKept(t *testing.T) {
	empty, none := amid(), amid()
	empty.Held = nil
	none.Views[2].Rev = 0
	one, _ := others(1, 2)
	for _, base := range []api.Repl{amid(), empty, none, one, begun(t, 2, 3, 1)} {
		r, want := roomy(base), opened(roomy(base))
		for _, v := range append(slices.Clone(r.Held), api.Version{Item: 3, S: stampOf(5, 2, 2), Tag: "b", Attrs: spare([]api.Attr{attr(1, 5)}, attr(77, 78))}) {
			attrs := slices.Clone(v.Attrs[:len(v.Attrs)+2])
			yes := Known(r, v)
			if yes != Known(base, v) || yes != Known(r, v) {
				t.Errorf("Known(%v, %v): not the same each time", r, v)
			}
			if !slices.Equal(v.Attrs[:len(v.Attrs)+2], attrs) {
				t.Errorf("the version that was handed in is changed to %v", v)
			}
		}
		got, plain := Sweep(r), Sweep(base)
		if !alikeRepl(got, plain) {
			t.Errorf("Sweep: %v, and with spare room %v", plain, got)
		}
		// What was told first is still so behind the second call: nothing of it was kept.
		turn(Sweep(r))
		if !alikeRepl(got, plain) {
			t.Error("two answers share memory")
		}
		turn(got)
		if !alikeRepl(opened(r), want) {
			t.Fatalf("what was handed in is changed to %v", opened(r))
		}
	}
}

// What is handed in may share lists; what is told may not.
func TestNoTwoListsOfAnAnswerShareMemory(t *testing.T) {
	attrs := []api.Attr{attr(0, 5), attr(1, 6)}
	heads := slices.Clone(amid().Views[0].Seen)
	epochs := []int{1, 2, 3}
	r := amid()
	for i := range r.Held {
		r.Held[i].Attrs = attrs
	}
	for i := range r.Views {
		r.Views[i].Seen, r.Views[i].Epochs = heads, epochs
	}
	got := Sweep(r)
	var marks []*int
	for _, v := range got.Held {
		marks = append(marks, &v.Attrs[0].Val, &v.Attrs[1].Val)
	}
	for _, v := range got.Views {
		marks = append(marks, &v.Seen[0].S.L, &v.Seen[5].S.N, &v.Epochs[0], &v.Epochs[2])
	}
	for i, n := range marks {
		*n = 1000 + i
	}
	for i, n := range marks {
		if *n != 1000+i {
			t.Errorf("mark %d: %d", i, *n)
		}
	}
	// 3 and 4 are kept by 1, and all have seen them; 5 has no attribute 1 of 5 here.
	if len(marks) != 4*2+3*4 {
		t.Errorf("%d marks: %v", len(marks), got)
	}
	if attrs[0] != attr(0, 5) || attrs[1] != attr(1, 6) || !slices.Equal(heads, amid().Views[0].Seen) || !slices.Equal(epochs, []int{1, 2, 3}) {
		t.Error("what was handed in is changed")
	}
}

// The texts of an answer are new memory too, so that a small one does not keep a great one.
func TestTextsAreNewMemory(t *testing.T) {
	tag, body, text := strings.Repeat("c", 6), strings.Repeat("b", 12), strings.Repeat(" ", 20)+"^a"
	r := amid()
	for i := range r.Held {
		r.Held[i].Dead, r.Held[i].Attrs, r.Held[i].Tag, r.Held[i].Body = false, nil, tag, body
	}
	for i := range r.Views {
		r.Views[i].Filter = text
	}
	got := Sweep(r)
	if len(got.Held) != 6 || len(got.Views) != 3 {
		t.Fatalf("%v", got)
	}
	for _, v := range got.Held {
		if v.Tag != tag || v.Body != body || unsafe.StringData(v.Tag) == unsafe.StringData(tag) || unsafe.StringData(v.Body) == unsafe.StringData(body) {
			t.Errorf("version %v", v)
		}
	}
	for _, v := range got.Views {
		if v.Filter != text || unsafe.StringData(v.Filter) == unsafe.StringData(text) {
			t.Errorf("view %v", v)
		}
	}
}

func TestNilAndEmptyAreOne(t *testing.T) {
	bare, empty := amid(), amid()
	for i := range empty.Held {
		bare.Held[i].Attrs, empty.Held[i].Attrs = nil, []api.Attr{}
	}
	for i := range empty.Held {
		if Known(bare, bare.Held[i]) != Known(empty, empty.Held[i]) {
			t.Errorf("%v", bare.Held[i])
		}
	}
	if a, b := Sweep(bare), Sweep(empty); !alikeRepl(a, b) || len(a.Held) != 5 {
		t.Errorf("%v; %v", a, b)
	}
	for i := range empty.Views {
		bare.Views[i].Seen, empty.Views[i].Seen = nil, []api.Head{}
		bare.Views[i].Epochs, empty.Views[i].Epochs = nil, []int{}
	}
	for i := range empty.Held {
		if Known(bare, bare.Held[i]) || Known(empty, empty.Held[i]) {
			t.Errorf("%v", bare.Held[i])
		}
	}
	if a, b := Sweep(bare), Sweep(empty); !alikeRepl(a, b) || len(a.Held) != 6 {
		t.Errorf("%v; %v", a, b)
	}
	bare.Held, empty.Held = nil, []api.Version{}
	if a, b := Sweep(bare), Sweep(empty); !alikeRepl(a, b) || len(a.Held) != 0 {
		t.Errorf("nothing held: %v; %v", a, b)
	}
}

// odd is replicas that may not be.
func odd() []api.Repl {
	made := func(change func(*api.Repl)) api.Repl {
		r := amid()
		change(&r)
		return r
	}
	return []api.Repl{
		{}, {ID: 1}, {ID: 1, Size: 5}, {ID: 2, Size: 3, Views: []api.View{{}}}, {ID: 2, Size: 3, Held: make([]api.Version, 9)}, {Size: math.MaxInt},
		{ID: math.MinInt, L: math.MinInt, N: math.MinInt, Size: math.MinInt, Quota: math.MinInt},
		{ID: math.MaxInt, L: math.MaxInt, N: math.MaxInt, Size: math.MaxInt, Quota: math.MaxInt},
		made(func(r *api.Repl) { r.Size = 0 }), made(func(r *api.Repl) { r.Size = 1 }), made(func(r *api.Repl) { r.Size = -1 }), made(func(r *api.Repl) { r.Size = math.MinInt }),
		made(func(r *api.Repl) { r.Views = make([]api.View, 1<<10) }), made(func(r *api.Repl) { slices.Reverse(r.Views) }), made(func(r *api.Repl) { r.Views = slices.Repeat(r.Views, 1<<6) }),
		made(func(r *api.Repl) { r.Views[0].Rev = math.MinInt }), made(func(r *api.Repl) { r.Views[1].Rev = math.MaxInt }), made(func(r *api.Repl) { r.Views[0].R = 0 }), made(func(r *api.Repl) { r.Views[0].R = math.MaxInt }),
		made(func(r *api.Repl) { r.Views[0].Filter = strings.Repeat("\xff", 1<<12) }), made(func(r *api.Repl) { r.Views[1].Filter = strings.Repeat("(", 1<<12) }), made(func(r *api.Repl) { r.Views[1].Filter = "" }),
		made(func(r *api.Repl) { r.Views[0].Epochs = make([]int, 1<<12) }), made(func(r *api.Repl) { r.Views[1].Epochs = make([]int, 1<<12) }), made(func(r *api.Repl) { r.Views[1].Epochs = []int{math.MaxInt, math.MinInt} }), made(func(r *api.Repl) { r.Views[0].Epochs = nil }),
		made(func(r *api.Repl) { slices.Reverse(r.Views[0].Seen) }), made(func(r *api.Repl) { r.Views[0].Seen = make([]api.Head, 1<<12) }), made(func(r *api.Repl) { r.Views[0].Seen[0].S = stampOf(math.MinInt, 0, -1) }),
		made(func(r *api.Repl) { r.Views[0].Seen = []api.Head{head(4, 1, 1, 1), head(4, 9, 9, 9)} }), made(func(r *api.Repl) { r.Views[0].Seen[2].S.L = math.MaxInt }),
		made(func(r *api.Repl) { slices.Reverse(r.Held) }), made(func(r *api.Repl) { r.Held = make([]api.Version, 1<<10) }), made(func(r *api.Repl) { r.Held = slices.Repeat(r.Held, 1<<6) }),
		made(func(r *api.Repl) {
			r.Held[0] = api.Version{Item: math.MinInt, S: r.Held[0].S, Tag: strings.Repeat("\xff", 1<<12)}
		}),
		made(func(r *api.Repl) { r.Held[0].Attrs = make([]api.Attr, 1<<12) }), made(func(r *api.Repl) { r.Held[3].Body = strings.Repeat("b", 1<<12) }),
		made(func(r *api.Repl) { r.Held[0].S = stampOf(math.MaxInt, math.MinInt, 0) }), made(func(r *api.Repl) { r.Held[1].S = stampOf(-1, -1, -1) }), made(func(r *api.Repl) { r.Held[1].S = r.Held[0].S }),
	}
}

// strange is versions that may not be.
func strange() []api.Version {
	return []api.Version{
		{}, {Item: 3}, {Item: -1, S: stampOf(-1, -1, -1)}, {Item: math.MinInt, S: stampOf(math.MinInt, math.MinInt, math.MinInt)}, {Item: math.MaxInt, S: stampOf(math.MaxInt, math.MaxInt, math.MaxInt)},
		{Item: 3, S: stampOf(5, 2, 2), Attrs: make([]api.Attr, 1<<12), Tag: strings.Repeat("\xff", 1<<12), Body: strings.Repeat("b", 1<<12)},
		{Item: 3, S: stampOf(5, 2, 2), Attrs: []api.Attr{attr(math.MaxInt, math.MinInt), attr(1, 5), attr(1, 4)}},
	}
}

// Nothing is promised of such, but that each call ends, changes nothing, and tells the same each time; a Sweep leaves out some of what is held, if anything.
func TestWrongInputs(t *testing.T) {
	for i, r := range append(odd(), amid()) {
		was := copyOf(r)
		for k, v := range append(strange(), amid().Held...) {
			if Known(r, v) != Known(r, v) {
				t.Errorf("%d: Known of %d: not the same each time", i, k)
			}
		}
		got := Sweep(r)
		if !alikeRepl(got, Sweep(r)) {
			t.Errorf("%d: Sweep: not the same each time", i)
		}
		left := got.Held
		for _, v := range r.Held {
			if len(left) > 0 && alike(v, left[0]) {
				left = left[1:]
			}
		}
		if len(left) > 0 {
			t.Errorf("%d: Sweep: %v was not held", i, left[0])
		}
		got.Held = r.Held
		if !alikeRepl(got, r) {
			t.Errorf("%d: Sweep: %v", i, got)
		}
		if !alikeRepl(r, was) {
			t.Errorf("%d is changed", i)
		}
	}
}

// What has no head has not been seen, though a version without a stamp be not behind it.
func TestVersionsThatAreNoneAreNotKnown(t *testing.T) {
	r, _ := others(1, 3)
	for _, v := range []api.Version{{Item: 2, Tag: "b"}, {Item: 4, S: stampOf(-1, 1, 1), Tag: "b"}, {Tag: "b"}} {
		wantKnown(t, "not seen", r, v, false)
	}
}

// Where there is no view of some replica, or none is the own one, nothing is Known: so nothing goes that may be wanted.
func TestReplicasWithoutAViewKnowNothing(t *testing.T) {
	each(func(id, size, n int) {
		r, v := others(id, size)
		r.Views = r.Views[:n-1]
		wantBoth(t, "too few views", r, v, false)
		r, v = others(id, size)
		r.Views = append(r.Views, api.View{R: size + 1})
		wantBoth(t, "one too many, of whom nothing is known", r, v, false)
		r.Size++
		wantBoth(t, "one of whom nothing is known", r, v, false)
		for _, id := range []int{math.MinInt, -1, 0, size + 1, math.MaxInt} {
			r, v = others(n, size)
			r.ID = id
			wantBoth(t, "no view of its own", r, v, false)
		}
	})
}

// A filter that is none lets nothing through; Epochs that are not there are below those that are.
func TestViewsThatMayNotBe(t *testing.T) {
	each(func(id, size, n int) {
		r, v := others(id, size)
		for i := range r.Views {
			r.Views[i].Filter = []string{"", "^", "b", "*)", "@1=5@", strings.Repeat("!", 6) + "*"}[i]
		}
		wantBoth(t, "filters that are none", r, v, false)
		r, v = others(id, size)
		if n == id {
			return
		}
		r.Views[n-1].Epochs = r.Views[n-1].Epochs[:size-1]
		wantBoth(t, "too few Epochs", r, v, false)
		r.Views[n-1].Epochs = nil
		wantBoth(t, "no Epochs", r, v, false)
	})
}
