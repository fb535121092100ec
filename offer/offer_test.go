package offer

import (
	"math"
	"slices"
	"strings"
	"testing"
	"unsafe"

	"cardamom/api"
	"cardamom/repl"
	"cardamom/vers"
	"cardamom/view"
)

func attr(key, val int) api.Attr { return api.Attr{Key: key, Val: val} }

func stampOf(l, r, n int) api.Stamp { return api.Stamp{L: l, R: r, N: n} }

func head(item, l, r, n int) api.Head { return api.Head{Item: item, S: stampOf(l, r, n)} }

// alike, alikeView, alikeRepl and alikeGossip are apart from the program's, so that a fault there is not hidden here.
func alike(a, b api.Version) bool {
	return a.Item == b.Item && a.S == b.S && a.Dead == b.Dead && slices.Equal(a.Attrs, b.Attrs) && a.Tag == b.Tag && a.Body == b.Body
}

func alikeView(a, b api.View) bool {
	return a.R == b.R && a.Rev == b.Rev && a.Filter == b.Filter && slices.Equal(a.Seen, b.Seen) && slices.Equal(a.Epochs, b.Epochs)
}

func alikeRepl(a, b api.Repl) bool {
	return a.ID == b.ID && a.Size == b.Size && a.L == b.L && a.N == b.N && a.Quota == b.Quota &&
		slices.EqualFunc(a.Held, b.Held, alike) && slices.EqualFunc(a.Views, b.Views, alikeView)
}

func alikeGossip(a, b api.Gossip) bool {
	return a.From == b.From && a.To == b.To && slices.EqualFunc(a.Views, b.Views, alikeView) && slices.EqualFunc(a.Batch, b.Batch, alike)
}

func begun(t *testing.T, id, size, quota int) api.Repl {
	t.Helper()
	r, ok := repl.New(id, size, quota)
	if !ok {
		t.Fatalf("repl.New(%d, %d, %d): no", id, size, quota)
	}
	return r
}

func copyOf(r api.Repl) api.Repl {
	r.Held = slices.Clone(r.Held)
	for i := range r.Held {
		r.Held[i].Attrs = slices.Clone(r.Held[i].Attrs)
	}
	r.Views = slices.Clone(r.Views)
	for i := range r.Views {
		r.Views[i].Seen = slices.Clone(r.Views[i].Seen)
		r.Views[i].Epochs = slices.Clone(r.Views[i].Epochs)
	}
	return r
}

// amid is replica 2 of 3 that knows of the others; it holds something in store, in custody, and of each what is Dead.
func amid() api.Repl {
	return api.Repl{
		ID: 2, Size: 3, L: 9, N: 3, Quota: 2,
		Held: []api.Version{
			{Item: 1, S: stampOf(7, 3, 4), Dead: true, Attrs: []api.Attr{attr(2, 8)}, Tag: "b"},
			{Item: 2, S: stampOf(3, 2, 1), Attrs: []api.Attr{attr(1, 5)}, Tag: "ab", Body: "two"},
			{Item: 4, S: stampOf(9, 1, 4), Attrs: []api.Attr{attr(0, 7), attr(3, 99)}, Tag: "x", Body: "\x00\xff"},
			{Item: 5, S: stampOf(8, 2, 3), Dead: true, Tag: "ac"},
			{Item: 6, S: stampOf(5, 2, 2), Tag: "abcdef", Body: "twelve bytes"},
		},
		Views: []api.View{
			{R: 1, Rev: 41, Filter: "^z", Seen: []api.Head{head(2, 2, 1, 1), head(3, 4, 1, 2), head(4, 9, 1, 4), head(6, 6, 1, 3)}, Epochs: []int{4, 2, 6}},
			{R: 2, Rev: 30, Filter: " ^a", Seen: []api.Head{head(1, 7, 3, 4), head(2, 3, 2, 1), head(4, 9, 1, 4), head(5, 8, 2, 3), head(6, 5, 2, 2)}, Epochs: []int{1, 2, 3}},
			{R: 3},
		},
	}
}

// wantBatch asks for all of what is told, the batch by its things, and for what was handed in as it was.
func wantBatch(t *testing.T, what string, r api.Repl, to, batch int, things ...int) {
	t.Helper()
	was := copyOf(r)
	want := api.Gossip{From: r.ID, To: to}
	for _, v := range was.Views {
		if v.Rev > 0 {
			want.Views = append(want.Views, v)
		}
	}
	for _, item := range things {
		i := slices.IndexFunc(was.Held, func(v api.Version) bool { return v.Item == item })
		want.Batch = append(want.Batch, was.Held[i])
	}
	if g, ok := To(r, to, batch); !ok || !alikeGossip(g, want) {
		t.Errorf("%s: To(%d, %d): %v, %v, not %v", what, to, batch, g, ok, want)
	}
	if !alikeRepl(r, was) {
		t.Errorf("%s: To(%d, %d): what was handed in is changed to %v", what, to, batch, r)
	}
}

func TestTo(t *testing.T) {
	r := amid()
	// By their stamps: 2, 6, 1, 5, 4. What 1 has seen: of 2 what was ahead, of 4 that one, of 6 what came behind.
	wantBatch(t, "one", r, 1, 1, 2)
	wantBatch(t, "two", r, 1, 2, 2, 1)
	wantBatch(t, "as many", r, 1, 3, 2, 1, 5)
	wantBatch(t, "more than there are", r, 1, 4, 2, 1, 5)
	wantBatch(t, "of whom nothing is known", r, 3, 1, 2)
	wantBatch(t, "of whom nothing is known", r, 3, 2, 2, 6)
	wantBatch(t, "of whom nothing is known", r, 3, 3, 2, 6, 1)
	wantBatch(t, "of whom nothing is known", r, 3, 4, 2, 6, 1, 5)
}

func TestToOfNothingHeld(t *testing.T) {
	for size := 1; size <= api.MaxRepl; size++ {
		for id := 1; id <= size; id++ {
			r := begun(t, id, size, 0)
			for to := 1; to <= size; to++ {
				if to == id {
					continue
				}
				g, ok := To(r, to, 4)
				own := api.View{R: id, Rev: 1, Filter: "*", Epochs: make([]int, size)}
				if !ok || !alikeGossip(g, api.Gossip{From: id, To: to, Views: []api.View{own}}) {
					t.Errorf("%d of %d to %d: %v, %v", id, size, to, g, ok)
				}
			}
		}
	}
	r := amid()
	r.Held = nil
	wantBatch(t, "nothing held", r, 1, 4)
	wantBatch(t, "nothing held", r, 3, 1)
}

func numbers() []int {
	return []int{math.MinInt, math.MinInt + 1, -5, -4, -3, -2, -1, 0, 1, 2, 3, 4, 5, 6, 7, 1 << 32, 1<<32 + 1, math.MaxInt - 1, math.MaxInt}
}

// Each to and batch about their ends; beside a no there is nothing.
func TestWhoIsToldAndHowMuch(t *testing.T) {
	for size := 1; size <= api.MaxRepl; size++ {
		for id := 1; id <= size; id++ {
			r := begun(t, id, size, 0)
			for item := range 6 {
				r, _, _ = repl.Put(r, item+1, nil, "a", "b")
			}
			for _, to := range numbers() {
				for _, batch := range numbers() {
					may := 1 <= to && to <= size && to != id && 1 <= batch && batch <= 4
					g, ok := To(r, to, batch)
					if ok != may || !may && !alikeGossip(g, api.Gossip{}) || may && (g.From != id || g.To != to || len(g.Views) != 1 || len(g.Batch) != batch) {
						t.Errorf("%d of %d: To(%d, %d): %v, %v", id, size, to, batch, g, ok)
					}
				}
			}
		}
	}
}

func TestNoOfOneThatKnowsMuch(t *testing.T) {
	for _, x := range [][2]int{{0, 1}, {2, 1}, {4, 1}, {-1, 1}, {1, 0}, {1, 5}, {3, -1}, {3, 0}, {3, 5}, {2, 0}, {0, 0}, {4, 5}, {math.MaxInt, 4}, {math.MinInt, 4}, {1, math.MaxInt}, {1, math.MinInt}} {
		r := amid()
		if g, ok := To(r, x[0], x[1]); ok || !alikeGossip(g, api.Gossip{}) {
			t.Errorf("To(%d, %d): %v, %v", x[0], x[1], g, ok)
		}
		if !alikeRepl(r, amid()) {
			t.Errorf("To(%d, %d): what was handed in is changed to %v", x[0], x[1], r)
		}
	}
}

// viewOf is of replica r at its rev'th state, unlike that of any other.
func viewOf(r, rev int) api.View {
	if rev == 0 {
		return api.View{R: r}
	}
	return api.View{R: r, Rev: rev, Filter: []string{"*", "^a", "!@1=5", " ( * ) ", "^b|^c"}[r-1], Seen: []api.Head{head(r, 9+r, r, 1), head(6, 8, r, 2)}, Epochs: []int{r, 0, rev, 1, 1000000}}
}

// Each set of replicas of whom something is known, the one that is told among them or not.
func TestWhichViewsAreTold(t *testing.T) {
	for id := 1; id <= 5; id++ {
		for known := range 1 << 5 {
			for _, rev := range []int{1, 2, 1000000} {
				r := api.Repl{ID: id, Size: 5}
				var want []api.View
				for n := 1; n <= 5; n++ {
					v := viewOf(n, 0)
					if known>>(n-1)&1 == 1 || n == id {
						v = viewOf(n, rev)
						want = append(want, v)
					}
					r.Views = append(r.Views, v)
				}
				for to := 1; to <= 5; to++ {
					if to == id {
						continue
					}
					if g, ok := To(r, to, 1); !ok || !alikeGossip(g, api.Gossip{From: id, To: to, Views: want}) {
						t.Errorf("%d to %d: %v, %v, not %v", id, to, g, ok, want)
					}
				}
			}
		}
	}
}

// What is held is told or not by one head of its thing.
func TestWhatWasSeenOfAThing(t *testing.T) {
	for _, x := range []struct {
		what string
		seen []api.Head
		told bool
	}{
		{"nothing", nil, true},
		{"nothing, in an empty list", []api.Head{}, true},
		{"the same stamp", []api.Head{head(3, 5, 3, 4)}, false},
		{"a lesser L", []api.Head{head(3, 4, 3, 4)}, true},
		{"a lesser L, a greater R", []api.Head{head(3, 4, 5, 4)}, true},
		{"a lesser R", []api.Head{head(3, 5, 2, 4)}, true},
		{"a lesser R, a greater N", []api.Head{head(3, 5, 2, 5)}, true},
		{"a lesser N", []api.Head{head(3, 5, 3, 3)}, true},
		{"the least", []api.Head{head(3, 1, 1, 1)}, true},
		{"a greater L", []api.Head{head(3, 6, 3, 4)}, false},
		{"a greater L, a lesser R and N", []api.Head{head(3, 6, 1, 1)}, false},
		{"a greater R", []api.Head{head(3, 5, 4, 4)}, false},
		{"a greater R, a lesser N", []api.Head{head(3, 5, 4, 1)}, false},
		{"a greater N", []api.Head{head(3, 5, 3, 5)}, false},
		{"the greatest", []api.Head{head(3, 5000, 5, 1000)}, false},
		{"others, later", []api.Head{head(1, 9, 3, 4), head(2, 9, 3, 4), head(4, 9, 3, 4), head(6, 9, 3, 4)}, true},
		{"others, of the same stamp", []api.Head{head(2, 5, 3, 4), head(4, 5, 3, 4)}, true},
		{"others later, it lesser", []api.Head{head(2, 9, 3, 4), head(3, 4, 3, 4), head(4, 9, 3, 4)}, true},
		{"others lesser, it the same", []api.Head{head(2, 1, 1, 1), head(3, 5, 3, 4), head(4, 1, 1, 1)}, false},
	} {
		for _, v := range []api.Version{
			{Item: 3, S: stampOf(5, 3, 4), Tag: "a", Body: "b"},
			{Item: 3, S: stampOf(5, 3, 4), Dead: true, Attrs: []api.Attr{attr(0, 1)}},
		} {
			r := begun(t, 4, 5, 0)
			r.Held = []api.Version{v}
			r.Views[1] = api.View{R: 2, Rev: 1, Filter: "*", Seen: x.seen, Epochs: make([]int, 5)}
			things := []int{3}
			if !x.told {
				things = nil
			}
			wantBatch(t, x.what, r, 2, 1, things...)
			wantBatch(t, x.what, r, 2, 4, things...)
		}
	}
}

// In all its parts, in store or in custody, Dead or not, whatever its Body.
func TestEachIsToldAsItIsHeld(t *testing.T) {
	for _, v := range append(amid().Held,
		api.Version{Item: 1, S: stampOf(5000, 5, 1000), Attrs: []api.Attr{attr(0, 0), attr(1, 99), attr(3, 1)}, Tag: "zzzzzz", Body: "\x00\n \xff\x80\"\\'abcd"},
		api.Version{Item: 6, S: stampOf(1, 1, 1)},
	) {
		for _, own := range []string{"*", "^a", "!*"} {
			r := amid()
			r.Held, r.Views[1].Filter = []api.Version{v}, own
			wantBatch(t, own, r, 3, 1, v.Item)
			wantBatch(t, own, r, 3, 4, v.Item)
		}
	}
}

// What others have seen, and what it has seen itself, does not count.
func TestTheViewOfTheOneThatIsToldCounts(t *testing.T) {
	r := begun(t, 3, 5, 0)
	r.Held = []api.Version{{Item: 2, S: stampOf(6, 3, 2)}, {Item: 5, S: stampOf(4, 3, 1)}}
	later := []api.Head{head(2, 9, 1, 1), head(5, 9, 1, 2)}
	for to := 1; to <= 5; to++ {
		if to == 3 {
			continue
		}
		for n := range r.Views {
			r.Views[n] = api.View{R: n + 1, Rev: 7, Filter: "*", Seen: later, Epochs: make([]int, 5)}
		}
		wantBatch(t, "all have seen", r, to, 4)
		r.Views[to-1].Seen = nil
		wantBatch(t, "all others have seen", r, to, 4, 5, 2)
		for n := range r.Views {
			r.Views[n].Seen = nil
		}
		r.Views[to-1].Seen = later
		wantBatch(t, "that one alone has seen", r, to, 4)
	}
}

// Neither the own filter nor that of the one that is told keeps anything back; nor does Quota, the time, or the number of writes.
func TestFiltersAndNumbersKeepNothingBack(t *testing.T) {
	for _, own := range []string{"*", "^a", "!*", "^z", "@1=5"} {
		for _, other := range []string{"*", "^a", "!*", "^z", "@1=5"} {
			for _, quota := range []int{0, 1, 8} {
				r := amid()
				r.Views[1].Filter, r.Views[0].Filter, r.Quota = own, other, quota
				wantBatch(t, own+" to "+other, r, 1, 4, 2, 1, 5)
				r.L, r.N = 5000, 1000
				wantBatch(t, own+" to "+other, r, 3, 4, 2, 6, 1, 5)
			}
		}
	}
}

// each hands over every order of the numbers from 0 to below n.
func each(n int, f func(order []int)) {
	order := []int{}
	var add func()
	add = func() {
		if len(order) == n {
			f(order)
			return
		}
		for i := range n {
			if !slices.Contains(order, i) {
				order = append(order, i)
				add()
				order = order[:len(order)-1]
			}
		}
	}
	add()
}

// rising is stamps that rise, by L, by R where L is one, by N where R is one too.
func rising() []api.Stamp {
	return []api.Stamp{stampOf(3, 2, 3), stampOf(3, 4, 1), stampOf(7, 1, 6), stampOf(7, 1, 7), stampOf(8, 1, 1), stampOf(4000, 3, 999)}
}

// Every order of six stamps over six things: the lowest come first, whatever their things.
func TestTheLowestStampsComeFirst(t *testing.T) {
	each(6, func(order []int) {
		r := begun(t, 1, 2, 0)
		byStamp := make([]int, 6)
		for i, n := range order {
			r.Held = append(r.Held, api.Version{Item: i + 1, S: rising()[n], Tag: "a"})
			byStamp[n] = i + 1
		}
		for batch := 1; batch <= 4; batch++ {
			wantBatch(t, "order", r, 2, batch, byStamp[:batch]...)
		}
	})
}

// So many are not seen, of at most so many.
func TestFewerAsManyAndMoreThanBatch(t *testing.T) {
	for n := range 7 {
		for batch := 1; batch <= 4; batch++ {
			r := begun(t, 1, 3, 0)
			var things []int
			for item := 1; item <= 6; item++ {
				// The stamps fall while the things rise.
				v := api.Version{Item: item, S: stampOf(20-item, 2, 1)}
				r.Held = append(r.Held, v)
				r.Views[2].Seen = append(r.Views[2].Seen, api.Head{Item: item, S: v.S})
			}
			r.Views[2].Rev, r.Views[2].Filter, r.Views[2].Epochs = 1, "*", []int{0, 0, 0}
			r.Views[2].Seen = r.Views[2].Seen[n:]
			for item := n; item >= 1; item-- {
				things = append(things, item)
			}
			wantBatch(t, "not seen", r, 3, batch, things[:min(n, batch)]...)
		}
	}
}

// row is a stamp's place in the row of all: a number for each, so that it is reckoned apart from the program.
func row(s api.Stamp) int { return (s.L*10+s.R)*10000 + s.N }

// reckoned is the batch by the promise's words, and how many it was picked from.
func reckoned(r api.Repl, to, batch int) ([]api.Version, int) {
	last := map[int]int{}
	for _, h := range r.Views[to-1].Seen {
		last[h.Item] = row(h.S)
	}
	var l []api.Version
	for _, v := range r.Held {
		if row(v.S) > last[v.Item] {
			l = append(l, v)
		}
	}
	slices.SortFunc(l, func(a, b api.Version) int { return row(a.S) - row(b.S) })
	return l[:min(len(l), batch)], len(l)
}

// near is the stamps just ahead of s, or just behind it, by one part of it alone.
func near(s api.Stamp, by, part int) api.Stamp {
	switch {
	case part == 0 && s.R+by >= 1 && s.R+by <= 5:
		s.R += by
	case part == 1 && s.N+by >= 1 && s.N+by <= s.L:
		s.N += by
	default:
		s.L += by
		s.N = min(s.N, s.L)
	}
	return s
}

// Of each of six things: held, and seen nothing of it (0), a lesser one (1), that one (2), a later one (3); or not held, and seen nothing (4) or something of it (5).
func TestEachStateOfSixThings(t *testing.T) {
	var orders [][]int
	each(6, func(order []int) { orders = append(orders, slices.Clone(order)) })
	const states = 6
	for n := range states * states * states * states * states * states {
		r := api.Repl{ID: 2, Size: 2, Views: []api.View{{R: 1, Rev: 3, Filter: "*", Epochs: []int{0, 0}}, {R: 2, Rev: 9, Filter: "*", Epochs: []int{0, 0}}}}
		left := n
		for i, place := range orders[n*7%len(orders)] {
			s := rising()[place]
			state := left % states
			left /= states
			if state < 4 {
				r.Held = append(r.Held, api.Version{Item: i + 1, S: s, Dead: (n+i)%2 == 0})
			}
			h := api.Head{Item: i + 1, S: s}
			switch state {
			case 0, 4:
				continue
			case 1:
				h.S = near(s, -1, n%3)
			case 3:
				h.S = near(s, 1, n%3)
			}
			r.Views[0].Seen = append(r.Views[0].Seen, h)
		}
		for batch := 1; batch <= 4; batch++ {
			want, _ := reckoned(r, 1, batch)
			g, ok := To(r, 1, batch)
			if !ok || !alikeGossip(g, api.Gossip{From: 2, To: 1, Views: r.Views, Batch: want}) {
				t.Fatalf("%v: To(1, %d): %v, %v, not %v", r, batch, g, ok, want)
			}
		}
	}
}

// chance tells numbers that hang on nothing but how often it was asked.
type chance int

func (c *chance) below(n int) int {
	*c = *c * 48271 % (1<<31 - 1)
	return int(*c) / 7 % n
}

// step does something to one of three replicas: a write, a filter, or what it learns of another one.
func (c *chance) step(l []api.Repl) {
	i := c.below(len(l))
	item := 1 + c.below(api.MaxItem)
	switch c.below(8) {
	case 0:
		l[i], _ = repl.SetFilter(l[i], []string{"*", "^a", "!^a", "@1:2-9"}[c.below(4)])
	case 1:
		l[i], _, _ = repl.Delete(l[i], item)
	case 2, 3:
		j := c.below(len(l))
		l[i].Views[j] = repl.Own(l[j])
	case 4:
		// What another one wrote came here, or a later time did.
		j := c.below(len(l))
		l[i].L = max(l[i].L, l[j].L)
		for _, v := range l[j].Held {
			if v.Item == item && i != j {
				l[i].Held = slices.DeleteFunc(l[i].Held, func(v api.Version) bool { return v.Item == item })
				l[i].Held = append(l[i].Held, v)
				slices.SortFunc(l[i].Held, func(a, b api.Version) int { return a.Item - b.Item })
			}
		}
	default:
		l[i], _, _ = repl.Put(l[i], item, []api.Attr{attr(1, c.below(12))}, []string{"", "a", "ab", "b"}[c.below(4)], "body")
	}
}

// Whatever three replicas did: each tells the others what is reckoned plainly, within the limits of what may be told.
func TestRunsAgainstTheWords(t *testing.T) {
	more, fewer, custody, dead := 0, 0, 0, 0
	for run := range 60 {
		c := chance(1 + run)
		l := []api.Repl{begun(t, 1, 3, 4), begun(t, 2, 3, 1), begun(t, 3, 3, 8)}
		for range 60 {
			c.step(l)
			for i, r := range l {
				to, batch := 1+(i+1+c.below(2))%3, 1+c.below(4)
				g, ok := To(r, to, batch)
				want, n := reckoned(r, to, batch)
				views := slices.DeleteFunc(slices.Clone(r.Views), func(v api.View) bool { return v.Rev == 0 })
				if !ok || !alikeGossip(g, api.Gossip{From: i + 1, To: to, Views: views, Batch: want}) {
					t.Fatalf("run %d: %v: To(%d, %d): %v, %v, not %v", run, r, to, batch, g, ok, want)
				}
				if again, ok := To(r, to, batch); !ok || !alikeGossip(g, again) {
					t.Fatalf("run %d: %v, then %v", run, g, again)
				}
				if n > batch {
					more++
				} else if n < batch {
					fewer++
				}
				kept := repl.Query(r, api.Filter{Op: api.All})
				for k, v := range g.Batch {
					if !vers.May(v) || k > 0 && row(g.Batch[k-1].S) >= row(v.S) {
						t.Fatalf("run %d: the batch %v", run, g.Batch)
					}
					if v.Dead {
						dead++
					} else if !slices.ContainsFunc(kept, func(w api.Version) bool { return alike(v, w) }) {
						custody++
					}
				}
				for k, v := range g.Views {
					if !view.May(v, 3) || v.Rev < 1 || k > 0 && g.Views[k-1].R >= v.R {
						t.Fatalf("run %d: the views %v", run, g.Views)
					}
				}
			}
		}
	}
	if more < 500 || fewer < 500 || custody < 500 || dead < 500 {
		t.Errorf("%d times more than are told, %d times fewer, %d in custody, %d dead", more, fewer, custody, dead)
	}
}

// roomy is r with spare room, that has something in it, behind each of its lists.
func roomy(r api.Repl) api.Repl {
	held := append(slices.Clone(r.Held), api.Version{Item: 6, S: stampOf(1, 1, 1), Tag: "spare"}, api.Version{Item: 78})
	for i := range held {
		held[i].Attrs = spare(held[i].Attrs, attr(77, 78))
	}
	views := append(slices.Clone(r.Views), api.View{R: 4, Rev: 1, Filter: "spare"}, api.View{R: 78})
	for i := range views {
		views[i].Seen = spare(views[i].Seen, head(5, 78, 79, 80))
		views[i].Epochs = spare(views[i].Epochs, 77)
	}
	r.Held, r.Views = held[:len(r.Held)], views[:len(r.Views)]
	return r
}

func spare[E any](l []E, e E) []E {
	more := append(slices.Clone(l), e, e)
	return more[:len(l)]
}

// opened is r with its spare room as part of each list.
func opened(r api.Repl) api.Repl {
	r.Held = slices.Clone(r.Held[:len(r.Held)+2])
	for i, v := range r.Held {
		r.Held[i].Attrs = v.Attrs[:len(v.Attrs)+2]
	}
	r.Views = slices.Clone(r.Views[:len(r.Views)+2])
	for i, v := range r.Views {
		r.Views[i].Seen, r.Views[i].Epochs = v.Seen[:len(v.Seen)+2], v.Epochs[:len(v.Epochs)+2]
	}
	return r
}

// turn writes over an answer and its spare room: what it shares with an argument is seen there.
func turn(g api.Gossip) {
	batch := g.Batch[:cap(g.Batch)]
	for i, v := range batch {
		fill(v.Attrs, attr(-1, -1))
		batch[i] = api.Version{Item: -1, Tag: "turned"}
	}
	views := g.Views[:cap(g.Views)]
	for i, v := range views {
		fill(v.Seen, head(-1, -1, -1, -1))
		fill(v.Epochs, -1)
		views[i] = api.View{R: -1, Rev: -1, Filter: "turned"}
	}
}

func fill[E any](l []E, e E) {
	l = l[:cap(l)]
	for i := range l {
		l[i] = e
	}
}

func TestNothingHandedInIsChangedOrKept(t *testing.T) {
	empty := amid()
	empty.Held = nil
	one := amid()
	one.Held = one.Held[3:4]
	for _, base := range []api.Repl{amid(), empty, one, begun(t, 2, 3, 1)} {
		r, want := roomy(base), opened(roomy(base))
		for to := range 5 {
			for batch := range 6 {
				g, ok := To(r, to, batch)
				plain, same := To(base, to, batch)
				if ok != same || !alikeGossip(g, plain) {
					t.Errorf("To(%d, %d): %v, and with spare room %v", to, batch, plain, g)
				}
				// What was told first is still so behind the second call: nothing of it was kept.
				again, _ := To(r, to, batch)
				turn(again)
				if !alikeGossip(g, plain) {
					t.Errorf("To(%d, %d): two answers share memory", to, batch)
				}
				turn(g)
				if !alikeRepl(opened(r), want) {
					t.Fatalf("To(%d, %d): what was handed in is changed to %v", to, batch, opened(r))
				}
			}
		}
	}
}

// What is handed in may share lists; what is told may not.
func TestNoTwoListsOfAnAnswerShareMemory(t *testing.T) {
	attrs := []api.Attr{attr(0, 5), attr(1, 6)}
	heads := []api.Head{head(3, 3, 2, 1)}
	epochs := []int{1, 2, 3}
	r := amid()
	for i := range r.Held {
		r.Held[i].Attrs = attrs
	}
	for i := range r.Views {
		r.Views[i].Rev, r.Views[i].Filter, r.Views[i].Seen, r.Views[i].Epochs = 1, "*", heads, epochs
	}
	g, ok := To(r, 1, 4)
	var marks []*int
	for _, v := range g.Batch {
		marks = append(marks, &v.Attrs[0].Val, &v.Attrs[1].Val)
	}
	for _, v := range g.Views {
		marks = append(marks, &v.Seen[0].S.L, &v.Epochs[0], &v.Epochs[2])
	}
	for i, n := range marks {
		*n = 1000 + i
	}
	for i, n := range marks {
		if *n != 1000+i {
			t.Errorf("mark %d: %d", i, *n)
		}
	}
	if !ok || len(marks) != 4*2+3*3 {
		t.Errorf("%d marks", len(marks))
	}
	if attrs[0] != attr(0, 5) || attrs[1] != attr(1, 6) || heads[0] != head(3, 3, 2, 1) || !slices.Equal(epochs, []int{1, 2, 3}) {
		t.Error("what was handed in is changed")
	}
}

// The texts of an answer are new memory too, so that a small one does not keep a great one.
func TestTextsAreNewMemory(t *testing.T) {
	tag, body, text := strings.Repeat("a", 6), strings.Repeat("b", 12), strings.Repeat(" ", 20)+"^a"
	r := amid()
	for i := range r.Held {
		r.Held[i].Dead, r.Held[i].Tag, r.Held[i].Body = false, tag, body
	}
	r.Views[0].Filter, r.Views[1].Filter = text, text
	g, ok := To(r, 3, 4)
	if !ok || len(g.Batch) != 4 || len(g.Views) != 2 {
		t.Fatalf("%v, %v", g, ok)
	}
	for _, v := range g.Batch {
		if v.Tag != tag || v.Body != body || unsafe.StringData(v.Tag) == unsafe.StringData(tag) || unsafe.StringData(v.Body) == unsafe.StringData(body) {
			t.Errorf("version %v", v)
		}
	}
	for _, v := range g.Views {
		if v.Filter != text || unsafe.StringData(v.Filter) == unsafe.StringData(text) {
			t.Errorf("view %v", v)
		}
	}
}

func TestNilAndEmptyAreOne(t *testing.T) {
	bare, empty := amid(), amid()
	for i := range empty.Held {
		bare.Held[i].Attrs, empty.Held[i].Attrs = nil, []api.Attr{}
	}
	for i := range empty.Views {
		bare.Views[i].Seen, empty.Views[i].Seen = nil, []api.Head{}
	}
	empty.Views[2].Epochs = []int{}
	for _, to := range []int{1, 3} {
		a, ok := To(bare, to, 4)
		b, same := To(empty, to, 4)
		if !ok || !same || !alikeGossip(a, b) || len(a.Batch) != 4 {
			t.Errorf("to %d: %v; %v", to, a, b)
		}
	}
	bare.Held, empty.Held = nil, []api.Version{}
	a, ok := To(bare, 1, 4)
	b, same := To(empty, 1, 4)
	if !ok || !same || !alikeGossip(a, b) || len(a.Batch) != 0 {
		t.Errorf("nothing held: %v; %v", a, b)
	}
}

// odd is replicas that may not be.
func odd() []api.Repl {
	made := func(change func(*api.Repl)) api.Repl {
		r := amid()
		change(&r)
		return r
	}
	return []api.Repl{
		{}, {ID: 1}, {ID: 1, Size: 5}, {ID: 2, Size: 3, Views: []api.View{{}}}, {ID: 2, Size: 3, Held: make([]api.Version, 9)}, {Size: math.MaxInt},
		{ID: math.MinInt, L: math.MinInt, N: math.MinInt, Size: math.MinInt, Quota: math.MinInt},
		{ID: math.MaxInt, L: math.MaxInt, N: math.MaxInt, Size: math.MaxInt, Quota: math.MaxInt},
		made(func(r *api.Repl) { r.ID = 0 }), made(func(r *api.Repl) { r.ID = 4 }), made(func(r *api.Repl) { r.ID = math.MinInt }),
		made(func(r *api.Repl) { r.Size = 0 }), made(func(r *api.Repl) { r.Size = 1 }), made(func(r *api.Repl) { r.Size = -1 }), made(func(r *api.Repl) { r.Size = 4 }), made(func(r *api.Repl) { r.Size = math.MaxInt }),
		made(func(r *api.Repl) { r.Views = nil }), made(func(r *api.Repl) { r.Views = r.Views[:1] }), made(func(r *api.Repl) { r.Views = make([]api.View, 1<<12) }),
		made(func(r *api.Repl) { slices.Reverse(r.Views) }), made(func(r *api.Repl) { r.Views = slices.Repeat(r.Views, 1<<8) }),
		made(func(r *api.Repl) { r.Views[0].Rev = -1 }), made(func(r *api.Repl) { r.Views[0].Rev = math.MinInt }), made(func(r *api.Repl) { r.Views[1].Rev = math.MaxInt }),
		made(func(r *api.Repl) { r.Views[0].R = 0 }), made(func(r *api.Repl) { r.Views[0].R = math.MaxInt }), made(func(r *api.Repl) { r.Views[0].Filter = strings.Repeat("\xff", 1<<12) }),
		made(func(r *api.Repl) { r.Views[0].Epochs = make([]int, 1<<12) }), made(func(r *api.Repl) { r.Views[2].Seen = r.Views[0].Seen }),
		made(func(r *api.Repl) { slices.Reverse(r.Views[0].Seen) }), made(func(r *api.Repl) { r.Views[0].Seen = make([]api.Head, 1<<12) }), made(func(r *api.Repl) { r.Views[0].Seen[0].S = stampOf(math.MinInt, 0, -1) }),
		made(func(r *api.Repl) { r.Views[0].Seen = []api.Head{head(4, 1, 1, 1), head(4, 9, 9, 9)} }), made(func(r *api.Repl) { r.Views[0].Seen[2].S.L = math.MaxInt }),
		made(func(r *api.Repl) { slices.Reverse(r.Held) }), made(func(r *api.Repl) { r.Held = make([]api.Version, 1<<12) }), made(func(r *api.Repl) { r.Held = slices.Repeat(r.Held, 1<<8) }),
		made(func(r *api.Repl) {
			r.Held[0] = api.Version{Item: math.MinInt, S: r.Held[0].S, Tag: strings.Repeat("\xff", 1<<12)}
		}),
		made(func(r *api.Repl) { r.Held[0].Attrs = make([]api.Attr, 1<<12) }), made(func(r *api.Repl) { r.Held[3].Body = strings.Repeat("b", 1<<12) }),
		made(func(r *api.Repl) { r.Held[0].S = stampOf(math.MaxInt, math.MinInt, 0) }), made(func(r *api.Repl) { r.Held[1].S = stampOf(-1, -1, -1) }), made(func(r *api.Repl) { r.Held[1].S = r.Held[0].S }),
	}
}

// Nothing is promised of such replicas, but that each call ends, changes nothing, and tells the same each time; and what R2 says of a no.
func TestReplicasThatMayNotBe(t *testing.T) {
	for i, r := range odd() {
		was := copyOf(r)
		for _, to := range numbers() {
			for _, batch := range numbers() {
				g, ok := To(r, to, batch)
				again, same := To(r, to, batch)
				if ok != same || !alikeGossip(g, again) || !ok && !alikeGossip(g, api.Gossip{}) || len(g.Batch) > 4 || len(g.Views) > len(r.Views) {
					t.Errorf("%d: To(%d, %d): %v, %v", i, to, batch, ok, same)
				}
				if ok && (batch < 1 || batch > 4 || to == r.ID) {
					t.Errorf("%d: To(%d, %d): yes", i, to, batch)
				}
			}
		}
		if !alikeRepl(r, was) {
			t.Errorf("replica %d is changed", i)
		}
	}
}
