package take

import (
	"slices"
	"testing"

	"cardamom/api"
	"cardamom/offer"
	"cardamom/repl"
)

// chance tells numbers that hang on nothing but how often it was asked.
type chance int

func (c *chance) below(n int) int {
	*c = *c * 48271 % (1<<31 - 1)
	return int(*c) / 7 % n
}

// world is replicas that tell one another what they have, on ways on which much is lost, comes late, and twice; all that was written; and of each thing what was written last.
type world struct {
	chance
	l                               []api.Repl
	fly                             []api.Gossip
	issued                          []api.Version
	last                            map[int]api.Version
	taken, refused, recounted, gone int
}

func newWorld(t *testing.T, seed, size int) *world {
	t.Helper()
	w := &world{chance: chance(seed), last: map[int]api.Version{}}
	for id := 1; id <= size; id++ {
		w.l = append(w.l, begun(t, id, size, []int{8, 1, 2, 0, 8}[(id+seed)%5]))
	}
	return w
}

func (w *world) wrote(v api.Version, e api.Errno) {
	if e != api.OK {
		return
	}
	w.issued = append(w.issued, v)
	if row(w.last[v.Item].S) < row(v.S) {
		w.last[v.Item] = v
	}
}

// comes is a telling that comes to the one that it is for; to another one now and then, which takes nothing of it.
func (w *world) comes(t *testing.T, g api.Gossip) {
	t.Helper()
	if !May(g, len(w.l)) {
		t.Errorf("May(%v): no", g)
	}
	if i := w.below(len(w.l)); i+1 != g.To {
		wantEArg(t, "a run", w.l[i], g)
	}
	r := w.l[g.To-1]
	want, refused := after(r, g)
	wantFrom(t, "a run", r, g, want)
	got, _ := From(r, g)
	w.wantOnlyMore(t, r, got)
	rank := w.rank()
	defer func() {
		if w.rank() > rank {
			t.Errorf("the measure rises from %d to %d by %v, told to %v", rank, w.rank(), g, r)
		}
	}()
	if refused {
		w.refused++
	}
	w.taken += len(got.Held) - len(r.Held)
	w.l[g.To-1] = got
}

// wantOnlyMore asks that what r knew got knows too.
func (w *world) wantOnlyMore(t *testing.T, r, got api.Repl) {
	t.Helper()
	more := got.L >= r.L && got.N == r.N && got.Quota == r.Quota
	for i, v := range r.Views {
		more = more && got.Views[i].Rev >= v.Rev
	}
	was, own := r.Views[r.ID-1], got.Views[r.ID-1]
	for i, n := range was.Epochs {
		more = more && own.Epochs[i] >= n
	}
	if !slices.Equal(was.Epochs, own.Epochs) {
		w.recounted++
	} else {
		for _, h := range was.Seen {
			more = more && last(own.Seen, h.Item) >= row(h.S)
		}
	}
	for _, v := range r.Held {
		kept := slices.ContainsFunc(got.Held, func(x api.Version) bool { return x.Item == v.Item && row(x.S) >= row(v.S) })
		if !kept {
			w.gone++
		}
		// What is wanted goes only where a later one came, that is not wanted.
		more = more && (kept || !lets(own.Filter, v) || last(own.Seen, v.Item) > row(v.S))
	}
	if !more {
		t.Errorf("%v is less than %v", got, r)
	}
}

// rank is the measure of W5: of each two replicas how many filters that the one set the other does not know of, and, less than one of these in all, how often the last of a thing was not seen.
func (w *world) rank() int {
	stale, missing := 0, 0
	for _, r := range w.l {
		own := r.Views[r.ID-1]
		for i, n := range own.Epochs {
			stale += max(w.l[i].Views[i].Epochs[i]-n, 0)
		}
		for item, v := range w.last {
			if last(own.Seen, item) != row(v.S) {
				missing++
			}
		}
	}
	return stale*(api.MaxRepl*api.MaxItem+1) + missing
}

// step does one thing: a write, a filter, a telling, or what becomes of what was told.
func (w *world) step(t *testing.T) {
	t.Helper()
	i, item := w.below(len(w.l)), 1+w.below(api.MaxItem)
	var v api.Version
	var e api.Errno
	switch w.below(15) {
	case 0:
		w.l[i], _ = repl.SetFilter(w.l[i], []string{"*", "^a", "^b", "!^a", "!*", "@1:2-9"}[w.below(6)])
	case 1:
		w.l[i], v, e = repl.Delete(w.l[i], item)
		w.wrote(v, e)
	case 2:
		w.l[i], v, e = repl.Put(w.l[i], item, []api.Attr{attr(1, w.below(12))}, []string{"", "a", "ab", "b"}[w.below(4)], "body")
		w.wrote(v, e)
	case 3, 4, 5, 6, 7, 8:
		if g, ok := offer.To(w.l[i], 1+w.below(len(w.l)), 1+w.below(4)); ok && len(w.fly) < 12 {
			w.fly = append(w.fly, g)
		}
	default:
		if len(w.fly) == 0 {
			return
		}
		n := w.below(len(w.fly))
		g := w.fly[n]
		// One in four stays on its way, and comes again; one in four is lost.
		fate := w.below(4)
		if fate > 0 {
			w.fly = slices.Delete(w.fly, n, n+1)
		}
		if fate < 3 {
			w.comes(t, g)
		}
	}
}

// wantTheorems asks for W1 and W2: what is held was written, what was seen and is wanted is held, and of each thing some replica holds what was written last.
func (w *world) wantTheorems(t *testing.T) {
	t.Helper()
	for _, r := range w.l {
		own := r.Views[r.ID-1]
		for _, v := range r.Held {
			if !slices.ContainsFunc(w.issued, func(x api.Version) bool { return alike(x, v) }) {
				t.Errorf("%v is held by %d, and was not written", v, r.ID)
			}
		}
		for _, v := range w.issued {
			if last(own.Seen, v.Item) == row(v.S) && lets(own.Filter, v) && !slices.ContainsFunc(r.Held, func(x api.Version) bool { return alike(x, v) }) {
				t.Errorf("%v was seen by %d, which wants it, and is not held", v, r.ID)
			}
		}
	}
	for item, v := range w.last {
		if !slices.ContainsFunc(w.l, func(r api.Repl) bool {
			return slices.ContainsFunc(r.Held, func(x api.Version) bool { return alike(x, v) })
		}) {
			t.Errorf("of thing %d none holds %v: %v", item, v, w.l)
		}
	}
}

// Whatever is written, set, told, lost, late, twice: From is what the promise's words say, and W1, W2 and W5 hold.
func TestRunsAgainstTheWords(t *testing.T) {
	taken, refused, recounted, gone := 0, 0, 0, 0
	for run := range 240 {
		w := newWorld(t, 1+run, 2+run%4)
		for range 300 {
			w.step(t)
			w.wantTheorems(t)
			if t.Failed() {
				t.Fatalf("run %d", run)
			}
		}
		taken, refused, recounted, gone = taken+w.taken, refused+w.refused, recounted+w.recounted, gone+w.gone
	}
	if taken < 1000 || refused < 200 || recounted < 1000 || gone < 200 {
		t.Errorf("%d taken, %d refused, %d recounted, %d gone", taken, refused, recounted, gone)
	}
}

// When nothing is written any more, and each tells each again and again, each has what it wants, as it was written last; and then what was told once, and comes late, changes nothing.
func TestAllOfItAndStill(t *testing.T) {
	for run := range 32 {
		size := 2 + run%4
		w := newWorld(t, 1000+run, size)
		for i := range w.l {
			w.l[i].Quota = api.MaxQuota
		}
		for range 200 {
			w.step(t)
		}
		late := w.fly
		for range 40 {
			for from := range w.l {
				for to := 1; to <= size; to++ {
					if g, ok := offer.To(w.l[from], to, 4); ok {
						w.comes(t, g)
						late = append(late, g)
					}
				}
			}
			w.wantTheorems(t)
		}
		for _, r := range w.l {
			for item, v := range w.last {
				x, ok := repl.Get(r, item)
				want := !v.Dead && lets(r.Views[r.ID-1].Filter, v)
				if ok != want || want && !alike(x, v) {
					t.Errorf("run %d: of thing %d %d has %v, %v, not %v", run, item, r.ID, x, ok, v)
				}
			}
		}
		still := w.l
		for range 3 {
			for _, g := range late {
				if got, e := From(still[g.To-1], g); e != api.OK || !alikeRepl(got, still[g.To-1]) {
					t.Fatalf("run %d: what comes late changes %v to %v, %d", run, still[g.To-1], got, e)
				}
			}
		}
	}
}

// state is what a thing is to a replica ahead of what comes.
const (
	unseen = iota
	seenOnly
	inStore
	inCustody
	states
)

// Each state of each of three things, each batch of two, each Quota up to 3, with and without an epoch that is more.
func TestEachStateOfThreeThings(t *testing.T) {
	more := api.View{R: 1, Rev: 9, Filter: "^b", Epochs: []int{1, 0}}
	var come []api.Version
	for item := 1; item <= 3; item++ {
		for time := 4; time <= 6; time++ {
			come = append(come, version(item, time, 1, item, "a"), version(item, time, 1, item, "b"))
		}
	}
	for n := range states * states * states * 4 * 2 {
		r := begun(t, 2, 2, n/2%4)
		r.L, r.Views[1].Filter = 5, "^a"
		left := n / 8
		for item := 1; item <= 3; item++ {
			state := left % states
			left /= states
			v := version(item, 5, 1, item, "")
			switch state {
			case unseen:
				continue
			case inStore:
				v.Tag = "a"
				r.Held = append(r.Held, v)
			case inCustody:
				v.Tag = "b"
				r.Held = append(r.Held, v)
			}
			r.Views[1].Seen = append(r.Views[1].Seen, api.Head{Item: item, S: v.S})
		}
		for _, a := range come {
			for _, b := range come {
				if row(a.S) >= row(b.S) {
					continue
				}
				g := tells(a, b)
				if n%2 == 1 {
					more.Seen = headsOf(r.Held)
					g.Views = []api.View{more}
				}
				wantWords(t, "states", r, g)
				if t.Failed() {
					return
				}
			}
		}
	}
}
