package take

import (
	"math"
	"slices"
	"strings"
	"testing"

	"cardamom/api"
	"cardamom/repl"
)

// lets tells by itself what the filters of these tests let through.
func lets(text string, v api.Version) bool {
	one := -1
	for _, a := range v.Attrs {
		if a.Key == 1 {
			one = a.Val
		}
	}
	switch strings.ReplaceAll(text, " ", "") {
	case "*":
		return true
	case "!*":
		return false
	case "!^a":
		return !strings.HasPrefix(v.Tag, "a")
	case "^b|@1=5":
		return strings.HasPrefix(v.Tag, "b") || one == 5
	case "@1:2-9":
		return 2 <= one && one <= 9
	case "^a", " ^a", "^b", "^z", "^zz", "^q":
		return strings.HasPrefix(v.Tag, strings.TrimLeft(text, " ^"))
	}
	panic("a filter that is not one of these: " + text)
}

// row is a stamp's place in the row of all: a number for each, so that it is reckoned apart from the program.
func row(s api.Stamp) int { return (s.L*10+s.R)*10000 + s.N }

// last is what was seen of an item, by its stamp's place.
func last(l []api.Head, item int) int {
	for _, h := range l {
		if h.Item == item {
			return row(h.S)
		}
	}
	return 0
}

func headsOf(l []api.Version) (out []api.Head) {
	for _, v := range l {
		out = append(out, api.Head{Item: v.Item, S: v.S})
	}
	return out
}

// isKnown is drop.Known by its promise's words.
func isKnown(r api.Repl, v api.Version) bool {
	kept := false
	for _, w := range r.Views {
		if w.Rev < 1 || last(w.Seen, v.Item) < row(v.S) {
			return false
		}
		for i, n := range w.Epochs {
			if n < r.Views[r.ID-1].Epochs[i] {
				return false
			}
		}
		kept = kept || lets(w.Filter, v)
	}
	return kept
}

// fellow is how many others are in custody.
func fellows(r api.Repl, item int) (n int) {
	for _, v := range r.Held {
		if v.Item != item && !lets(r.Views[r.ID-1].Filter, v) {
			n++
		}
	}
	return n
}

// after is r behind g, by the promise's words; and whether one was refused that was behind what was seen.
func after(r api.Repl, g api.Gossip) (_ api.Repl, refused bool) {
	r = copyOf(r)
	was := copyOf(r).Views[r.ID-1]
	for _, v := range copyOfGossip(g).Views {
		if v.R != r.ID && v.Rev > r.Views[v.R-1].Rev {
			r.Views[v.R-1] = v
		}
	}
	own, more := &r.Views[r.ID-1], false
	for _, v := range r.Views {
		for i, n := range v.Epochs {
			if n > own.Epochs[i] {
				own.Epochs[i], more = n, true
			}
		}
	}
	if more {
		own.Seen = headsOf(r.Held)
	}
	for _, v := range g.Batch {
		r.L = max(r.L, v.S.L)
		if row(v.S) <= last(own.Seen, v.Item) {
			continue
		}
		if !lets(own.Filter, v) && fellows(r, v.Item) >= r.Quota {
			refused = true
			continue
		}
		r.Held = append(slices.DeleteFunc(r.Held, func(x api.Version) bool { return x.Item == v.Item }), v)
		own.Seen = append(slices.DeleteFunc(own.Seen, func(h api.Head) bool { return h.Item == v.Item }), api.Head{Item: v.Item, S: v.S})
		slices.SortFunc(r.Held, func(a, b api.Version) int { return a.Item - b.Item })
		slices.SortFunc(own.Seen, func(a, b api.Head) int { return a.Item - b.Item })
	}
	if !slices.Equal(own.Seen, was.Seen) || !slices.Equal(own.Epochs, was.Epochs) {
		own.Rev++
	}
	r.Held = slices.DeleteFunc(r.Held, func(v api.Version) bool { return !lets(own.Filter, v) && isKnown(r, v) })
	return r, refused
}

// wantFrom asks for that; for what was handed in as it was; for what is told again to change nothing, if nothing was refused; and that the promise's words, reckoned plainly, say so too.
func wantFrom(t *testing.T, what string, r api.Repl, g api.Gossip, want api.Repl) {
	t.Helper()
	was, gWas := copyOf(r), copyOfGossip(g)
	got, e := From(r, g)
	if e != api.OK || !alikeRepl(got, want) {
		t.Errorf("%s: From(%v, %v): %v, %d, not %v", what, r, g, got, e, want)
	}
	if !alikeRepl(r, was) || !alikeGossip(g, gWas) {
		t.Errorf("%s: what was handed in is changed to %v, %v", what, r, g)
	}
	words, refused := after(was, gWas)
	if !alikeRepl(words, want) {
		t.Errorf("%s: the words say %v, not %v", what, words, want)
	}
	if refused {
		return
	}
	if again, e := From(got, g); e != api.OK || !alikeRepl(again, want) {
		t.Errorf("%s: told twice: %v, %d, not %v", what, again, e, want)
	}
}

// wantWords asks for what the promise's words say.
func wantWords(t *testing.T, what string, r api.Repl, g api.Gossip) {
	t.Helper()
	want, _ := after(r, g)
	wantFrom(t, what, r, g, want)
}

// changed is r with a change.
func changed(r api.Repl, change func(*api.Repl)) api.Repl {
	r = copyOf(r)
	change(&r)
	return r
}

// tells is what replica 1 tells replica 2 of a batch, and no view.
func tells(l ...api.Version) api.Gossip { return api.Gossip{From: 1, To: 2, Batch: l} }

func TestFromOfNothing(t *testing.T) {
	wantFrom(t, "nothing told", amid(), api.Gossip{From: 1, To: 2}, amid())
	wantFrom(t, "nothing told", amid(), api.Gossip{From: 3, To: 2, Views: []api.View{}, Batch: []api.Version{}}, amid())
	for size := 2; size <= api.MaxRepl; size++ {
		r := begun(t, size, size, 0)
		wantFrom(t, "begun", r, api.Gossip{From: 1, To: size}, r)
	}
}

// From of what is known: as it was.
func TestFromOfWhatIsKnown(t *testing.T) {
	r := amid()
	for _, g := range []api.Gossip{
		{From: 1, To: 2, Views: copyOfViews(r.Views)},
		{From: 1, To: 2, Views: copyOfViews(r.Views[1:]), Batch: []api.Version{r.Held[0]}},
		{From: 3, To: 2, Batch: []api.Version{r.Held[0], r.Held[1], r.Held[2], version(4, 9, 1, 4, "b")}},
		{From: 3, To: 2, Batch: []api.Version{version(1, 1, 1, 1, "a"), version(1, 2, 1, 2, "a"), version(1, 3, 1, 3, "a"), version(1, 3, 2, 1, "zz")}},
	} {
		wantFrom(t, "known", r, g, r)
	}
}

func TestFromAmid(t *testing.T) {
	want := changed(amid(), func(r *api.Repl) {
		g := told()
		r.Views[0] = g.Views[0]
		r.Held = []api.Version{r.Held[0], g.Batch[0], r.Held[1], r.Held[2], g.Batch[1]}
		r.Views[1].Rev = 31
		r.Views[1].Seen = []api.Head{head(1, 3, 2, 1), head(2, 10, 1, 5), head(3, 5, 2, 2), head(4, 9, 1, 4), head(5, 8, 2, 3), head(6, 10, 3, 1)}
	})
	wantFrom(t, "amid", amid(), told(), want)
}

// (1) Of each other one's view the greater Rev counts, of the same what was known; of the own one's never another.
func TestFromRevOfEachView(t *testing.T) {
	for size := 2; size <= api.MaxRepl; size++ {
		for id := 1; id <= size; id++ {
			for n := 1; n <= size; n++ {
				for _, rev := range []int{0, 1, 2, 3, 4, 5, 1000000} {
					r := begun(t, id, size, 2)
					if n != id && rev != 1 {
						r.Views[n-1] = api.View{R: n, Rev: 3, Filter: "^b", Seen: []api.Head{head(5, 1, 1, 1)}, Epochs: make([]int, size)}
					}
					from := 1 + id%size
					g := api.Gossip{From: from, To: id}
					if rev > 0 {
						g.Views = []api.View{{R: n, Rev: rev, Filter: "^z", Seen: []api.Head{head(2, 9, 1, 1)}, Epochs: make([]int, size)}}
					}
					want := copyOf(r)
					if n != id && (rev > 3 || rev == 1) {
						want.Views[n-1] = g.Views[0]
					}
					wantFrom(t, "a view", r, g, want)
				}
			}
		}
	}
}

// Each of three views has a lesser, the same, a greater Rev, or is not told.
func TestFromViewsOfEachRev(t *testing.T) {
	for n := range 4 * 4 * 4 {
		g, want := api.Gossip{From: 3, To: 2}, amid()
		left := n
		for i := range 3 {
			by := left%4 - 1
			left /= 4
			if by == 2 {
				continue
			}
			v := api.View{R: i + 1, Rev: amid().Views[i].Rev + by, Filter: "^q", Seen: []api.Head{head(6, 9, 1, 1)}, Epochs: []int{0, 2, 5}}
			g.Views = append(g.Views, v)
			if by == 1 && i != 1 {
				want.Views[i] = v
			}
		}
		wantFrom(t, "views", amid(), g, want)
	}
}

// A view of its own that another one tells counts for nothing, however new it is, not even for its Epochs.
func TestFromItsOwnView(t *testing.T) {
	for size := 2; size <= api.MaxRepl; size++ {
		for id := 1; id <= size; id++ {
			r := mustFilter(t, mustPut(t, begun(t, id, size, 4), 3, "b"), "^a")
			for _, rev := range []int{1, 2, 3, 4, 5, 1000000} {
				v := api.View{R: id, Rev: rev, Filter: "*", Seen: []api.Head{head(4, 9, 1, 1)}, Epochs: slices.Repeat([]int{7}, size)}
				g := api.Gossip{From: 1 + id%size, To: id, Views: []api.View{v}}
				wantFrom(t, "its own", r, g, r)
				// Beside it, what was seen there does not keep out what comes.
				g.Batch = []api.Version{version(4, 5, 1, 1, "a")}
				wantFrom(t, "its own, and a version", r, g, changed(r, func(r *api.Repl) {
					r.L, r.Held = 5, append(r.Held, g.Batch[0])
					own := &r.Views[id-1]
					own.Rev, own.Seen = own.Rev+1, append(own.Seen, head(4, 5, 1, 1))
				}))
			}
		}
	}
}

// counted is replica id of size, that holds one and has seen two that it does not hold; of the others it has views. All tell of the same epochs.
func counted(id, size int) api.Repl {
	r := api.Repl{ID: id, Size: size, L: 20, N: 7, Quota: 8, Held: []api.Version{{Item: 3, S: stampOf(5, 3, 4), Tag: "b", Body: "body"}}}
	for n := 1; n <= size; n++ {
		r.Views = append(r.Views, api.View{R: n, Rev: 10 + n, Filter: "^b", Seen: []api.Head{head(1, 9, 1, 2), head(3, 5, 3, 4), head(6, 1, 1, 1)}, Epochs: slices.Clone([]int{3, 1, 4, 0, 999999}[:size])})
	}
	return r
}

// each hands over each replica of each size but one, each whose view may be turned, and each place of its Epochs.
func each(f func(id, size, n, place int)) {
	for size := 2; size <= api.MaxRepl; size++ {
		for id := 1; id <= size; id++ {
			for n := 1; n <= size; n++ {
				for place := range size {
					f(id, size, n, place)
				}
			}
		}
	}
}

// recountedTo is r as it is once it knows of so many at a place.
func recountedTo(r api.Repl, place, n int) api.Repl {
	return changed(r, func(r *api.Repl) {
		own := &r.Views[r.ID-1]
		own.Rev++
		own.Epochs[place] = n
		own.Seen = headsOf(r.Held)
	})
}

// (2) An epoch at each place, that is less, the same or more, told by what came.
func TestFromEpochsThatCome(t *testing.T) {
	each(func(id, size, n, place int) {
		for _, by := range []int{-1, 0, 1} {
			r := counted(id, size)
			v := copyOfViews(r.Views)[n-1]
			v.Rev++
			v.Epochs[place] = max(v.Epochs[place]+by, 0)
			g := api.Gossip{From: 1 + id%size, To: id, Views: []api.View{v}}
			want := copyOf(r)
			if n != id {
				want.Views[n-1] = v
				if by > 0 {
					want = recountedTo(want, place, v.Epochs[place])
				}
			}
			wantFrom(t, "epochs", r, g, want)
			// A view that is not taken does not count.
			v.Rev -= 2
			g.Views = []api.View{v}
			wantFrom(t, "epochs of an older view", r, g, r)
		}
	})
}

// An epoch that a view told ahead of it: whatever comes, or nothing, it counts now, and but once.
func TestFromEpochsThatWereThere(t *testing.T) {
	each(func(id, size, n, place int) {
		r := counted(id, size)
		r.Views[n-1].Epochs[place]++
		g := api.Gossip{From: 1 + id%size, To: id}
		want := copyOf(r)
		if n != id {
			want = recountedTo(want, place, r.Views[n-1].Epochs[place])
		}
		wantFrom(t, "epochs that were there", r, g, want)
		if n == id {
			return
		}
		// A newer view gives its place to an older number: the older view counts no more.
		v := copyOfViews(r.Views)[n-1]
		v.Rev++
		v.Epochs[place]--
		g.Views = []api.View{v}
		want = copyOf(r)
		want.Views[n-1] = v
		wantFrom(t, "a newer view of fewer", r, g, want)
	})
}

// What is more at one place is not made up for by what is less at others; of each place the greatest counts.
func TestFromEpochsOfAllPlaces(t *testing.T) {
	r := counted(2, 4)
	r.Views[0].Epochs = []int{9, 0, 0, 0}
	r.Views[1].Epochs = []int{2, 5, 1, 0}
	r.Views[2].Epochs = []int{0, 0, 7, 0}
	v := api.View{R: 4, Rev: 20, Filter: "*", Epochs: []int{1, 4, 6, 3}}
	g := api.Gossip{From: 3, To: 2, Views: []api.View{v}}
	want := copyOf(r)
	want.Views[3] = v
	want.Views[1].Epochs, want.Views[1].Rev, want.Views[1].Seen = []int{9, 5, 7, 3}, 13, headsOf(r.Held)
	wantFrom(t, "all places", r, g, want)
	r.Views[1].Epochs = []int{9, 5, 7, 3}
	want.Views[1] = copyOf(r).Views[1]
	wantFrom(t, "none that is more", r, g, want)
}

// What was seen and is not held is seen no more, ahead of the Batch: so it is taken, and what is refused stays unseen.
func TestFromSeenAheadOfTheBatch(t *testing.T) {
	r := amid()
	v := r.Views[0]
	v.Rev++
	v.Epochs = []int{5, 2, 5}
	// 4 was seen with 9, 1, 4; the lesser one comes.
	g := tells(version(4, 2, 1, 1, "a"))
	wantFrom(t, "seen", r, g, r)
	g.Views = []api.View{v}
	want := changed(r, func(r *api.Repl) {
		r.Views[0] = v
		r.Held = []api.Version{r.Held[0], r.Held[1], g.Batch[0], r.Held[2]}
		own := &r.Views[1]
		own.Rev, own.Epochs, own.Seen = 31, []int{5, 2, 5}, headsOf(r.Held)
	})
	wantFrom(t, "seen no more", r, g, want)
	// What is held is seen all the same.
	g.Batch = []api.Version{version(1, 2, 1, 1, "a"), version(3, 5, 1, 2, "a"), version(5, 8, 2, 2, "a")}
	want = recountedTo(r, 0, 5)
	want.Views[0] = v
	wantFrom(t, "held", r, g, want)
	// There is no room for 4, so it is not seen.
	g.Batch = []api.Version{version(4, 9, 1, 4, "b")}
	r.Quota, want.Quota = 2, 2
	wantFrom(t, "refused", r, g, want)
	// What was seen once, and comes again just as it was.
	r.Quota, want.Quota = 3, 3
	want.Held = []api.Version{r.Held[0], r.Held[1], g.Batch[0], r.Held[2]}
	want.Views[1].Seen = headsOf(want.Held)
	wantFrom(t, "again", r, g, want)
	if !slices.Equal(want.Views[1].Seen, r.Views[1].Seen) {
		t.Errorf("Seen is %v, and was %v", want.Views[1].Seen, r.Views[1].Seen)
	}
}

// looks is a stamp beside that of thing 3, which is 5, 3, 4, and whether it is behind it.
func looks() []turn[api.Stamp] {
	set := func(l, r, n int) func(*api.Stamp) {
		return func(s *api.Stamp) { *s = stampOf(l, r, n) }
	}
	return []turn[api.Stamp]{
		{"the same", set(5, 3, 4), false},
		{"a lesser L", set(4, 3, 4), false},
		{"a lesser L, a greater R", set(4, 5, 4), false},
		{"a lesser R", set(5, 2, 4), false},
		{"a lesser R, a greater N", set(5, 2, 5), false},
		{"a lesser N", set(5, 3, 3), false},
		{"the least", set(1, 1, 1), false},
		{"a greater L", set(6, 3, 4), true},
		{"a greater L, a lesser R and N", set(6, 1, 1), true},
		{"a greater R", set(5, 4, 4), true},
		{"a greater R, a lesser N", set(5, 4, 1), true},
		{"a greater N", set(5, 3, 5), true},
		{"the greatest", set(5000, 5, 1000), true},
	}
}

// (3) Behind what was seen, at it, below it; held still or not; in store and in custody.
func TestFromStampsBesideWhatWasSeen(t *testing.T) {
	for _, x := range looks() {
		for n := range 16 {
			held, wasA, isA, dead := n&1 != 0, n&2 != 0, n&4 != 0, n&8 != 0
			old, v := version(3, 5, 3, 4, "b"), version(3, 1, 1, 1, "c")
			x.do(&v.S)
			v.Dead, v.Attrs = dead, []api.Attr{attr(2, 8)}
			if wasA {
				old.Tag = "a"
			}
			if isA {
				v.Tag = "ac"
			}
			r := begun(t, 2, 2, 1)
			r.L, r.Views[1].Filter = 5, "^a"
			r.Views[1].Seen = []api.Head{head(1, 4900, 1, 1), head(3, 5, 3, 4), head(4, 1, 1, 1)}
			if held {
				r.Held = []api.Version{old}
			}
			want := copyOf(r)
			want.L = max(5, v.S.L)
			if x.may {
				want.Held = []api.Version{v}
				want.Views[1].Seen[1].S = v.S
				want.Views[1].Rev++
			}
			wantFrom(t, x.what, r, tells(v), want)
		}
	}
}

// Of what nothing was seen of, the least stamp is behind it, whatever was seen of others.
func TestFromOfWhatWasNotSeen(t *testing.T) {
	for item := 1; item <= api.MaxItem; item++ {
		r := begun(t, 2, 3, 0)
		for other := 1; other <= api.MaxItem; other++ {
			if other != item {
				r.Views[1].Seen = append(r.Views[1].Seen, head(other, 5000, 5, 1000))
			}
		}
		v := version(item, 1, 1, 1, "")
		want := changed(r, func(r *api.Repl) {
			r.L, r.Held = 1, []api.Version{v}
			own := &r.Views[1]
			own.Rev, own.Seen = 2, slices.Insert(own.Seen, item-1, head(item, 1, 1, 1))
		})
		wantFrom(t, "not seen", r, tells(v), want)
	}
}

// A time above L, at it, below it: of what is taken, what was seen and what is refused alike. N stays.
func TestFromTimes(t *testing.T) {
	for _, l := range []int{0, 1, 9, 10, 11, 4999, 5000} {
		for _, time := range []int{9, 10, 11, 5000} {
			for _, what := range []string{"taken", "seen", "refused"} {
				r := changed(amid(), func(r *api.Repl) { r.L = l })
				v := version(6, time, 1, 3, "a")
				want := changed(r, func(r *api.Repl) { r.L = max(l, time) })
				switch what {
				case "taken":
					want.Held = append(want.Held, v)
					want.Views[1].Rev++
					want.Views[1].Seen = append(want.Views[1].Seen, api.Head{Item: 6, S: v.S})
				case "seen":
					r.Views[1].Seen = append(r.Views[1].Seen, head(6, 5000, 2, 3))
					want.Views[1].Seen = append(want.Views[1].Seen, head(6, 5000, 2, 3))
				case "refused":
					v.Tag, r.Quota, want.Quota = "b", 2, 2
				}
				wantFrom(t, what, r, tells(v), want)
			}
		}
	}
}

// What a write of one's own gets for its stamp is behind all that came, what was refused too.
func TestWritesComeBehindWhatCame(t *testing.T) {
	r := mustFilter(t, begun(t, 2, 2, 0), "^a")
	r, e := From(r, tells(version(1, 7, 1, 3, "a"), version(2, 40, 1, 4, "b")))
	if e != api.OK || len(r.Held) != 1 {
		t.Fatalf("%v, %d", r, e)
	}
	_, v, e := repl.Put(r, 2, nil, "a", "")
	if e != api.OK || v.S != stampOf(41, 2, 1) {
		t.Errorf("%v, %d", v, e)
	}
}

// Fewer, as many, more others in custody than Quota; what comes is in store or in custody, where one of its thing is in store, in custody, or none.
func TestFromQuota(t *testing.T) {
	for quota := 0; quota <= api.MaxQuota; quota++ {
		for others := 0; others <= 5; others++ {
			for old := range 3 {
				for _, dead := range []bool{false, true} {
					for _, tag := range []string{"a", "b"} {
						r := begun(t, 2, 2, quota)
						r.L, r.Views[1].Filter = 9, "^a"
						for item := 1; item <= 5; item++ {
							v := version(item, item, 1, 1, "a")
							if item <= others {
								v.Tag, v.Dead = "b", item%2 == 0
							}
							r.Held = append(r.Held, v)
						}
						if old > 0 {
							r.Held = append(r.Held, version(6, 6, 1, 1, []string{"", "a", "c"}[old]))
						}
						r.Views[1].Seen = headsOf(r.Held)
						v := version(6, 7, 1, 1, tag)
						v.Dead = dead
						want := copyOf(r)
						if tag == "a" || others < quota {
							want.Held = append(want.Held[:5], v)
							want.Views[1].Seen = headsOf(want.Held)
							want.Views[1].Rev++
						}
						wantFrom(t, "quota", r, tells(v), want)
					}
				}
			}
		}
	}
}

// What it has of the thing itself does not count, wherever that stands among others.
func TestFromQuotaOfEachThing(t *testing.T) {
	for item := 1; item <= api.MaxItem; item++ {
		for quota := 4; quota <= 7; quota++ {
			r := begun(t, 2, 2, quota)
			r.L, r.Views[1].Filter = 9, "^a"
			for n := 1; n <= api.MaxItem; n++ {
				r.Held = append(r.Held, version(n, 9, 1, n, "b"))
			}
			r.Views[1].Seen = headsOf(r.Held)
			v := version(item, 9, 2, 9, "c")
			want := copyOf(r)
			// The five others are as many as Quota, or more, if that is 5 or less.
			if quota > 5 {
				want.Held[item-1] = v
				want.Views[1].Seen[item-1].S = v.S
				want.Views[1].Rev++
			}
			wantFrom(t, "six in custody", r, tells(v), want)
		}
	}
}

// The filter that counts is its own, by attributes and tag, of what is Dead too.
func TestFromItsOwnFilter(t *testing.T) {
	for _, text := range []string{"*", "!*", "^a", "^b", "!^a", "^b|@1=5", "@1:2-9", "^q"} {
		for n := range 16 {
			v := api.Version{Item: 2, S: stampOf(4, 1, 1), Dead: n&1 != 0, Tag: []string{"", "a", "b", "q"}[n>>1&3]}
			if n&8 != 0 {
				v.Attrs = []api.Attr{attr(0, 1), attr(1, 5)}
			}
			r := mustFilter(t, begun(t, 2, 2, 0), text)
			// The other one's filter says the opposite.
			other := api.View{R: 1, Rev: 3, Filter: "*", Epochs: []int{0, 1}}
			if lets(text, v) {
				other.Filter = "!*"
			}
			r.Views[0] = other
			want := changed(r, func(r *api.Repl) {
				r.L = 4
				if lets(text, v) {
					r.Held = []api.Version{v}
					r.Views[1].Rev, r.Views[1].Seen = 3, []api.Head{head(2, 4, 1, 1)}
				}
			})
			wantFrom(t, text, r, tells(v), want)
		}
	}
}

// Several take the last room in order: those that come first get it, but for those of one thing, which share theirs.
func TestFromBatchInOrder(t *testing.T) {
	for _, x := range []struct {
		what  string
		quota int
		l     []api.Version
		held  []int // places in l
	}{
		{"none has room", 0, []api.Version{version(4, 1, 1, 1, "b"), version(3, 2, 1, 1, "b")}, nil},
		{"the first", 1, []api.Version{version(4, 1, 1, 1, "b"), version(3, 2, 1, 1, "b")}, []int{0}},
		{"the first, of one thing ahead", 1, []api.Version{version(3, 1, 1, 1, "b"), version(4, 2, 1, 1, "b")}, []int{0}},
		{"the first two", 2, []api.Version{version(4, 1, 1, 1, "b"), version(3, 2, 1, 1, "b"), version(1, 3, 1, 1, "b"), version(2, 4, 1, 1, "c")}, []int{1, 0}},
		{"the third goes in", 1, []api.Version{version(4, 1, 1, 1, "b"), version(3, 2, 1, 1, "b"), version(1, 3, 1, 1, "a"), version(2, 4, 1, 1, "c")}, []int{2, 0}},
		{"one thing four times", 1, []api.Version{version(4, 1, 1, 1, "b"), version(4, 2, 1, 1, "c"), version(4, 3, 1, 1, "a"), version(4, 4, 1, 1, "c")}, []int{3}},
		{"one thing twice, another between", 1, []api.Version{version(4, 1, 1, 1, "b"), version(2, 2, 1, 1, "b"), version(4, 3, 1, 1, "c")}, []int{2}},
		{"its room is free again", 1, []api.Version{version(4, 1, 1, 1, "b"), version(4, 2, 1, 1, "a"), version(2, 3, 1, 1, "b")}, []int{2, 1}},
		{"its room is free too late", 1, []api.Version{version(4, 1, 1, 1, "b"), version(2, 2, 1, 1, "b"), version(4, 3, 1, 1, "a")}, []int{2}},
		{"from store to custody, with room", 1, []api.Version{version(4, 1, 1, 1, "a"), version(4, 2, 1, 1, "b"), version(2, 3, 1, 1, "b")}, []int{1}},
		{"from store to custody, without", 1, []api.Version{version(4, 1, 1, 1, "a"), version(2, 2, 1, 1, "b"), version(4, 3, 1, 1, "b")}, []int{1, 0}},
	} {
		r := begun(t, 2, 2, x.quota)
		r.Views[1].Filter = "^a"
		want := copyOf(r)
		for _, i := range x.held {
			want.Held = append(want.Held, x.l[i])
		}
		want.L = x.l[len(x.l)-1].S.L
		if len(x.held) > 0 {
			want.Views[1].Rev, want.Views[1].Seen = 2, headsOf(want.Held)
		}
		wantFrom(t, x.what, r, tells(x.l...), want)
	}
}

// (4) Rev is one more where Seen or Epochs are other ones, however much, and not where neither is.
func TestFromRev(t *testing.T) {
	more := amid().Views[0]
	more.Rev, more.Epochs = 99, []int{4, 2, 6}
	alike := amid().Views[2]
	alike.Rev, alike.Filter, alike.Seen = 99, "^q", nil
	several := []api.Version{version(1, 4, 1, 1, "a"), version(2, 10, 1, 5, "a"), version(6, 10, 3, 1, "a"), version(6, 11, 3, 2, "a")}
	full := changed(amid(), func(r *api.Repl) { r.Quota = 2 })
	settled := changed(amid(), func(r *api.Repl) { r.Views[1].Seen = headsOf(r.Held) })
	for _, x := range []struct {
		what        string
		r           api.Repl
		views       []api.View
		batch       []api.Version
		seen, epoch bool
	}{
		{"neither", amid(), nil, nil, false, false},
		{"neither, though views are", amid(), []api.View{alike}, nil, false, false},
		{"neither, though L is", full, nil, []api.Version{version(3, 5, 1, 1, "b"), version(6, 40, 1, 3, "b")}, false, false},
		{"Seen", amid(), nil, several[:1], true, false},
		{"Seen of four", amid(), nil, several, true, false},
		{"Seen, and views", amid(), []api.View{alike}, several, true, false},
		{"Epochs", settled, []api.View{more}, nil, false, true},
		{"Epochs, and Seen twice", amid(), []api.View{more}, []api.Version{version(4, 9, 1, 4, "a")}, false, true},
		{"both", settled, []api.View{more}, several[:1], true, true},
		{"both, of four", settled, []api.View{more, alike}, several, true, true},
		{"both, without a Batch", amid(), []api.View{more}, nil, true, true},
	} {
		g := api.Gossip{From: 1, To: 2, Views: x.views, Batch: x.batch}
		got, e := From(x.r, g)
		was, own := x.r.Views[1], got.Views[1]
		if e != api.OK || slices.Equal(own.Seen, was.Seen) == x.seen || slices.Equal(own.Epochs, was.Epochs) == x.epoch {
			t.Errorf("%s: %v, %d", x.what, got, e)
		}
		want := was.Rev
		if x.seen || x.epoch {
			want++
		}
		if own.Rev != want || own.R != 2 || own.Filter != was.Filter {
			t.Errorf("%s: %v, Rev not %d", x.what, own, want)
		}
		wantWords(t, x.what, x.r, g)
	}
}

// A state goes on beyond the greatest Rev: no error is named for that.
func TestFromRevAtItsEnd(t *testing.T) {
	r := changed(amid(), func(r *api.Repl) { r.Views[1].Rev = 1000000 })
	wantWords(t, "Rev at its end", r, told())
}

// (5) What is Known goes when that comes by which it is, and no sooner; what is in store stays.
func TestFromSweeps(t *testing.T) {
	r := amid()
	// The last that was missing: 3 has seen all.
	all := api.View{R: 3, Rev: 8, Filter: "^zz", Seen: []api.Head{head(1, 3, 2, 1), head(3, 5, 2, 2), head(5, 8, 2, 3)}, Epochs: []int{4, 2, 5}}
	g := api.Gossip{From: 3, To: 2, Views: []api.View{all}}
	want := copyOf(r)
	want.Views[2] = all
	// 1 has not seen 5, so only 3 goes.
	want.Held = []api.Version{r.Held[0], r.Held[2]}
	wantFrom(t, "3 goes", r, g, want)
	one := r.Views[0]
	one.Rev, one.Seen = 42, all.Seen
	g.Views = []api.View{one, all}
	want.Views[0], want.Held = one, r.Held[:1]
	wantFrom(t, "3 and 5 go", r, g, want)
	one.Filter = "^a"
	g.Views = []api.View{one, all}
	want.Views[0], want.Held = one, r.Held
	wantFrom(t, "none keeps them", r, g, want)
	one.Filter, one.Epochs = "*", []int{4, 1, 5}
	g.Views = []api.View{one, all}
	want.Views[0] = one
	wantFrom(t, "an epoch is behind", r, g, want)
	one.Epochs = []int{4, 2, 6}
	g.Views = []api.View{one, all}
	// Now its own epochs are more, and 3 is behind them.
	want = recountedTo(want, 2, 6)
	want.Views[0] = one
	wantFrom(t, "an epoch is ahead", r, g, want)
	all.Epochs = []int{4, 2, 6}
	g.Views = []api.View{one, all}
	want.Views[2], want.Held = all, r.Held[:1]
	// What goes was seen all the same.
	wantFrom(t, "all know of it", r, g, want)
}

// What comes may go with it: all have seen it, as the views tell that come with it.
func TestFromSweepsWhatComes(t *testing.T) {
	r := mustFilter(t, begun(t, 2, 2, 1), "^a")
	v := version(3, 4, 1, 1, "b")
	w := api.View{R: 1, Rev: 5, Filter: "*", Seen: []api.Head{head(3, 4, 1, 1)}, Epochs: []int{0, 1}}
	g := api.Gossip{From: 1, To: 2, Views: []api.View{w}, Batch: []api.Version{v}}
	want := changed(r, func(r *api.Repl) {
		r.L, r.Views[0] = 4, w
		r.Views[1].Rev, r.Views[1].Seen = 3, w.Seen
	})
	wantFrom(t, "it goes as it comes", r, g, want)
	// The other one does not keep it, or knows of too few filters: it stays.
	for _, turned := range []func(*api.View){func(w *api.View) { w.Filter = "^a" }, func(w *api.View) { w.Epochs = []int{0, 0} }, func(w *api.View) { w.Seen = []api.Head{head(3, 3, 1, 1)} }, func(w *api.View) { w.Seen = nil }} {
		x := copyOfGossip(g)
		turned(&x.Views[0])
		want.Views[0], want.Held = x.Views[0], []api.Version{v}
		wantFrom(t, "it stays", r, x, want)
	}
}

// The Sweep is behind the Batch: what goes by it gives no room to what came with it.
func TestFromSweepIsTheLast(t *testing.T) {
	r := mustFilter(t, mustPut(t, begun(t, 2, 2, 1), 3, "b"), "^a")
	w := api.View{R: 1, Rev: 5, Filter: "*", Seen: []api.Head{head(3, 1, 2, 1), head(4, 4, 1, 1)}, Epochs: []int{0, 1}}
	v := version(4, 4, 1, 1, "b")
	g := api.Gossip{From: 1, To: 2, Views: []api.View{w}, Batch: []api.Version{v}}
	want := changed(r, func(r *api.Repl) {
		r.L, r.Held, r.Views[0] = 4, nil, w
	})
	wantFrom(t, "no room", r, g, want)
	// Told once more, it has room, and all have seen it then.
	want.Views[1].Rev, want.Views[1].Seen = want.Views[1].Rev+1, w.Seen
	once, _ := From(r, g)
	wantFrom(t, "room", once, g, want)
}

// A time at its end: no write can come behind it, but what was told is taken.
func TestFromTheGreatestStamp(t *testing.T) {
	r := mustPut(t, begun(t, 2, 2, 0), 1, "a")
	v := version(1, 5000, 5, 1000, "a")
	want := changed(r, func(r *api.Repl) {
		r.L, r.Held = 5000, []api.Version{v}
		r.Views[1].Rev, r.Views[1].Seen = 3, []api.Head{head(1, 5000, 5, 1000)}
	})
	wantFrom(t, "the greatest", r, tells(v), want)
	if _, _, e := repl.Put(want, 2, nil, "", ""); e != api.EMax {
		t.Errorf("repl.Put: %d", e)
	}
	r.L = math.MaxInt
	want.L = math.MaxInt
	wantFrom(t, "L beyond", r, tells(v), want)
}
