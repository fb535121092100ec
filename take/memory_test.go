package take

import (
	"math"
	"slices"
	"strings"
	"testing"
	"unsafe"

	"cardamom/api"
)

func spare[E any](l []E, e E) []E {
	more := append(slices.Clone(l), e, e)
	return more[:len(l)]
}

func roomyVersions(l []api.Version) []api.Version {
	more := append(slices.Clone(l), version(6, 1, 1, 1, "spare"), api.Version{Item: 78})
	for i := range more {
		more[i].Attrs = spare(more[i].Attrs, attr(77, 78))
	}
	return more[:len(l)]
}

func roomyViews(l []api.View) []api.View {
	more := append(slices.Clone(l), api.View{R: 4, Rev: 1, Filter: "spare"}, api.View{R: 78})
	for i := range more {
		more[i].Seen, more[i].Epochs = spare(more[i].Seen, head(5, 78, 79, 80)), spare(more[i].Epochs, 77)
	}
	return more[:len(l)]
}

// roomy is r with spare room, that has something in it, behind each of its lists.
func roomy(r api.Repl) api.Repl {
	r.Held, r.Views = roomyVersions(r.Held), roomyViews(r.Views)
	return r
}

func roomyGossip(g api.Gossip) api.Gossip {
	g.Views, g.Batch = roomyViews(g.Views), roomyVersions(g.Batch)
	return g
}

// openedVersions is l with its spare room as part of each list.
func openedVersions(l []api.Version) []api.Version {
	l = slices.Clone(l[:len(l)+2])
	for i, v := range l {
		l[i].Attrs = v.Attrs[:len(v.Attrs)+2]
	}
	return l
}

func openedViews(l []api.View) []api.View {
	l = slices.Clone(l[:len(l)+2])
	for i, v := range l {
		l[i].Seen, l[i].Epochs = v.Seen[:len(v.Seen)+2], v.Epochs[:len(v.Epochs)+2]
	}
	return l
}

func opened(r api.Repl) api.Repl {
	r.Held, r.Views = openedVersions(r.Held), openedViews(r.Views)
	return r
}

func openedGossip(g api.Gossip) api.Gossip {
	g.Views, g.Batch = openedViews(g.Views), openedVersions(g.Batch)
	return g
}

// turnOver writes over an answer and its spare room: what it shares with an argument is seen there.
func turnOver(r api.Repl) {
	held := r.Held[:cap(r.Held)]
	for i, v := range held {
		fill(v.Attrs, attr(-1, -1))
		held[i] = api.Version{Item: -1, Tag: "turned"}
	}
	views := r.Views[:cap(r.Views)]
	for i, v := range views {
		fill(v.Seen, head(-1, -1, -1, -1))
		fill(v.Epochs, -1)
		views[i] = api.View{R: -1, Rev: -1, Filter: "turned"}
	}
}

func fill[E any](l []E, e E) {
	l = l[:cap(l)]
	for i := range l {
		l[i] = e
	}
}

// tellings is what changes each part of amid, and what changes none, and what may not be.
func tellings() []api.Gossip {
	more, of3, other, none := told(), told(), told(), told()
	more.Views[0].Epochs = []int{9, 9, 9}
	of3.From, of3.Views = 3, []api.View{{R: 3, Rev: 8, Filter: "^zz", Seen: []api.Head{head(1, 3, 2, 1), head(3, 5, 2, 2), head(5, 8, 2, 3)}, Epochs: []int{4, 2, 5}}}
	other.To = 3
	none.Batch[1].S.R = 0
	return []api.Gossip{{From: 1, To: 2}, told(), more, of3, other, none, {}, {From: 1, To: 2, Views: amid().Views}, {From: 1, To: 2, Batch: amid().Held}}
}

func TestNothingHandedInIsChangedOrKept(t *testing.T) {
	for i, plain := range tellings() {
		for _, base := range []api.Repl{amid(), begun(t, 2, 3, 1)} {
			r, g := roomy(base), roomyGossip(plain)
			want, gWant := opened(roomy(base)), openedGossip(roomyGossip(plain))
			if May(g, 3) != May(plain, 3) || May(g, 3) != May(g, 3) {
				t.Errorf("%d: May: not the same each time", i)
			}
			got, e := From(r, g)
			once, e1 := From(base, plain)
			if e != e1 || !alikeRepl(got, once) {
				t.Errorf("%d: From: %v, %d, and with spare room %v, %d", i, once, e1, got, e)
			}
			// What was told first is still so behind the second call: nothing of it was kept.
			second, _ := From(r, g)
			turnOver(second)
			if !alikeRepl(got, once) {
				t.Errorf("%d: two answers share memory", i)
			}
			turnOver(got)
			if !alikeRepl(opened(r), want) || !alikeGossip(openedGossip(g), gWant) {
				t.Fatalf("%d: what was handed in is changed to %v, %v", i, opened(r), openedGossip(g))
			}
		}
	}
}

// What is handed in may share lists; what is told may not.
func TestNoTwoListsOfAnAnswerShareMemory(t *testing.T) {
	attrs := []api.Attr{attr(0, 5), attr(1, 6)}
	heads := []api.Head{head(1, 3, 2, 1)}
	epochs, more := []int{4, 2, 5}, []int{4, 2, 6}
	for n := range 3 {
		r, g := amid(), told()
		for i := range r.Held {
			r.Held[i].Attrs = attrs
		}
		for i := range r.Views {
			r.Views[i].Seen, r.Views[i].Epochs = heads, epochs
		}
		for i := range g.Batch {
			g.Batch[i].Attrs = attrs
		}
		for i := range g.Views {
			g.Views[i].Rev, g.Views[i].Seen, g.Views[i].Epochs = 99, heads, epochs
		}
		count := 5
		switch n {
		case 1:
			g.Views[0].Epochs, g.Views[2].Epochs = more, more
		case 2:
			// It is refused.
			g.To, count = 1, 3
		}
		got, _ := From(r, g)
		if len(got.Held) != count || len(got.Views) != 3 {
			t.Fatalf("%d: %v", n, got)
		}
		var marks []*int
		for _, v := range got.Held {
			marks = append(marks, &v.Attrs[0].Val, &v.Attrs[1].Val)
		}
		for _, v := range got.Views {
			marks = append(marks, &v.Seen[0].S.L, &v.Epochs[0], &v.Epochs[2])
		}
		for i, n := range marks {
			*n = 1000 + i
		}
		for i, n := range marks {
			if *n != 1000+i {
				t.Errorf("mark %d: %d", i, *n)
			}
		}
		if attrs[0] != attr(0, 5) || attrs[1] != attr(1, 6) || heads[0] != head(1, 3, 2, 1) || !slices.Equal(epochs, []int{4, 2, 5}) || !slices.Equal(more, []int{4, 2, 6}) {
			t.Error("what was handed in is changed")
		}
	}
}

// The texts of an answer are new memory too, so that a small one does not keep a great one.
func TestTextsAreNewMemory(t *testing.T) {
	tag, body, text := strings.Repeat("a", 6), strings.Repeat("b", 12), strings.Repeat(" ", 20)+"^a"
	for _, to := range []int{2, 3} {
		r, g := amid(), told()
		g.From, g.To = 1, to
		for _, l := range [][]api.Version{r.Held, g.Batch} {
			for i := range l {
				l[i].Dead, l[i].Tag, l[i].Body = false, tag, body
			}
		}
		for i := range r.Views {
			r.Views[i].Filter, g.Views[i].Filter = text, text
		}
		got, _ := From(r, g)
		if len(got.Held) != map[int]int{2: 5, 3: 3}[to] || len(got.Views) != 3 {
			t.Fatalf("%v", got)
		}
		for _, v := range got.Held {
			if v.Tag != tag || v.Body != body || unsafe.StringData(v.Tag) == unsafe.StringData(tag) || unsafe.StringData(v.Body) == unsafe.StringData(body) {
				t.Errorf("version %v", v)
			}
		}
		for _, v := range got.Views {
			if v.Filter != text || unsafe.StringData(v.Filter) == unsafe.StringData(text) {
				t.Errorf("view %v", v)
			}
		}
	}
}

func TestNilAndEmptyAreOne(t *testing.T) {
	bare, empty := amid(), amid()
	g, none := told(), told()
	for i := range bare.Held {
		bare.Held[i].Attrs, empty.Held[i].Attrs = nil, []api.Attr{}
	}
	for i := range g.Batch {
		g.Batch[i].Attrs, none.Batch[i].Attrs = nil, []api.Attr{}
	}
	for i := range bare.Views {
		bare.Views[i].Seen, empty.Views[i].Seen = nil, []api.Head{}
		g.Views[i].Seen, none.Views[i].Seen = nil, []api.Head{}
	}
	for range 3 {
		want, e := From(bare, g)
		if e != api.OK {
			t.Fatalf("From(%v, %v): %d", bare, g, e)
		}
		for _, r := range []api.Repl{bare, empty} {
			for _, x := range []api.Gossip{g, none} {
				if got, e := From(r, x); e != api.OK || !alikeRepl(got, want) || !May(x, 3) {
					t.Errorf("From(%v, %v): %v, %d, not %v", r, x, got, e, want)
				}
			}
		}
		if len(g.Batch) == 0 {
			g.Views, none.Views = nil, []api.View{}
		}
		g.Batch, none.Batch = nil, []api.Version{}
		bare.Held, empty.Held = nil, []api.Version{}
	}
}

// odd is replicas that may not be.
func odd() []api.Repl {
	made := func(change func(*api.Repl)) api.Repl { return changed(amid(), change) }
	return []api.Repl{
		{}, {ID: 2}, {ID: 2, Size: 3}, {ID: 2, Size: 3, Views: []api.View{{}}}, {ID: 2, Size: 3, Quota: 8, Held: make([]api.Version, 9)}, {ID: 2, Size: math.MaxInt, Quota: 2},
		{ID: math.MinInt, L: math.MinInt, N: math.MinInt, Size: math.MinInt, Quota: math.MinInt},
		{ID: 2, L: math.MaxInt, N: math.MaxInt, Size: math.MaxInt, Quota: math.MaxInt},
		{ID: 2, L: math.MinInt, N: math.MinInt, Size: 3, Quota: math.MinInt, Views: amid().Views},
		made(func(r *api.Repl) { r.Size = 0 }), made(func(r *api.Repl) { r.Size = 2 }), made(func(r *api.Repl) { r.Size = -1 }), made(func(r *api.Repl) { r.Size = 1000 }),
		made(func(r *api.Repl) { r.Views = make([]api.View, 1<<10) }), made(func(r *api.Repl) { slices.Reverse(r.Views) }), made(func(r *api.Repl) { r.Views = slices.Repeat(r.Views, 1<<6) }),
		made(func(r *api.Repl) { r.Views = r.Views[:1] }), made(func(r *api.Repl) { r.Views = r.Views[2:] }), made(func(r *api.Repl) { r.Views[1].R = 3 }), made(func(r *api.Repl) { r.Views[0].R = 2 }),
		made(func(r *api.Repl) { r.Views[0].Rev = math.MinInt }), made(func(r *api.Repl) { r.Views[1].Rev = math.MaxInt }), made(func(r *api.Repl) { r.Views[1].Rev = 0 }), made(func(r *api.Repl) { r.Views[0].R = math.MaxInt }),
		made(func(r *api.Repl) { r.Views[0].Filter = strings.Repeat("\xff", 1<<12) }), made(func(r *api.Repl) { r.Views[1].Filter = strings.Repeat("(", 1<<12) }), made(func(r *api.Repl) { r.Views[1].Filter = "" }),
		made(func(r *api.Repl) { r.Views[0].Epochs = make([]int, 1<<12) }), made(func(r *api.Repl) { r.Views[1].Epochs = make([]int, 1<<12) }), made(func(r *api.Repl) { r.Views[1].Epochs = []int{math.MaxInt, math.MinInt} }), made(func(r *api.Repl) { r.Views[1].Epochs = nil }),
		made(func(r *api.Repl) { slices.Reverse(r.Views[1].Seen) }), made(func(r *api.Repl) { r.Views[1].Seen = make([]api.Head, 1<<12) }), made(func(r *api.Repl) { r.Views[1].Seen[0].S = stampOf(math.MinInt, 0, -1) }),
		made(func(r *api.Repl) { slices.Reverse(r.Held) }), made(func(r *api.Repl) { r.Held = make([]api.Version, 1<<10) }), made(func(r *api.Repl) { r.Held = slices.Repeat(r.Held, 1<<6) }),
		made(func(r *api.Repl) {
			r.Held[0] = api.Version{Item: math.MinInt, S: r.Held[0].S, Tag: strings.Repeat("\xff", 1<<12)}
		}),
		made(func(r *api.Repl) { r.Held[0].Attrs = make([]api.Attr, 1<<12) }), made(func(r *api.Repl) { r.Held[2].Body = strings.Repeat("b", 1<<12) }),
		made(func(r *api.Repl) { r.Held[0].S = stampOf(math.MaxInt, math.MinInt, 0) }), made(func(r *api.Repl) { r.Held[1].S = stampOf(-1, -1, -1) }),
	}
}

// strange is what may not be told.
func strange() []api.Gossip {
	made := func(change func(*api.Gossip)) api.Gossip {
		g := copyOfGossip(told())
		change(&g)
		return g
	}
	return []api.Gossip{
		{}, {From: math.MinInt, To: math.MaxInt}, {From: 2, To: 2}, {From: math.MaxInt, To: 2},
		made(func(g *api.Gossip) { g.Views = make([]api.View, 1<<12) }), made(func(g *api.Gossip) { g.Batch = make([]api.Version, 1<<12) }), made(func(g *api.Gossip) { g.Views = slices.Repeat(g.Views, 1<<8) }),
		made(func(g *api.Gossip) { g.Views[0].Filter = strings.Repeat("!", 1<<12) }), made(func(g *api.Gossip) { g.Views[2].Filter = strings.Repeat("\xff", 1<<12) }),
		made(func(g *api.Gossip) { g.Views[1].Epochs = make([]int, 1<<12) }), made(func(g *api.Gossip) { g.Views[1].Seen = make([]api.Head, 1<<12) }),
		made(func(g *api.Gossip) { g.Batch[0].Tag = strings.Repeat("a", 1<<12) }), made(func(g *api.Gossip) { g.Batch[1].Attrs = make([]api.Attr, 1<<12) }),
		made(func(g *api.Gossip) { g.Batch[1].S = stampOf(math.MaxInt, math.MaxInt, math.MaxInt) }), made(func(g *api.Gossip) { slices.Reverse(g.Batch) }),
	}
}

// Nothing is promised of replicas that may not be, but that each call ends, changes nothing that is handed in, and tells the same each time. What may not be told is refused by those too.
func TestWrongInputs(t *testing.T) {
	for k, g := range strange() {
		for _, size := range []int{math.MinInt, -1, 0, 1, 2, 3, 4, 5} {
			wantMay(t, "strange", g, size, false)
		}
		if g.Views == nil && g.Batch == nil {
			continue
		}
		if May(g, math.MaxInt) {
			t.Errorf("%d: of the greatest size it may be", k)
		}
	}
	for _, r := range append(odd(), amid()) {
		for _, g := range strange() {
			if g.To != 2 || g.From != math.MaxInt || r.Size != math.MaxInt {
				wantEArg(t, "strange", r, g)
			}
		}
		was := copyOf(r)
		for i, g := range tellings() {
			got, e := From(r, g)
			again, e2 := From(r, g)
			if e != e2 || !alikeRepl(got, again) {
				t.Errorf("%d: From(%v): not the same each time", i, r)
			}
			if e != api.OK && !alikeRepl(got, was) {
				t.Errorf("%d: From(%v): %v, %d", i, r, got, e)
			}
			if !alikeRepl(r, was) {
				t.Fatalf("%d: what was handed in is changed to %v", i, r)
			}
		}
	}
}

// What has no view of its own may take what is told, but knows nothing of what it has seen: no view of its own is made up.
func TestFromWithoutAViewOfItsOwn(t *testing.T) {
	r := changed(amid(), func(r *api.Repl) { r.Views = r.Views[:1] })
	got, e := From(r, told())
	if e != api.OK || slices.ContainsFunc(got.Views, func(v api.View) bool { return v.R == 2 }) {
		t.Errorf("%v, %d", got, e)
	}
}
