package goal

import (
	"slices"
	"testing"

	"cardamom/api"
	"cardamom/eval"
	"cardamom/repl"
)

// modelLets tells whether what r lets through is v too.
func modelLets(r api.Repl, v api.Version) bool { return eval.Lets(repl.Filter(r), v) }

func isBehind(a, b api.Stamp) bool {
	x, y := []int{a.L, a.R, a.N}, []int{b.L, b.R, b.N}
	return slices.Compare(x, y) > 0
}

// modelLast is of each thing what was written last, by thing.
func modelLast(m api.Mesh) []api.Version {
	var out []api.Version
	for item := 1; item <= api.MaxItem; item++ {
		best := -1
		for i, v := range m.Issued {
			if v.Item == item && (best < 0 || isBehind(v.S, m.Issued[best].S)) {
				best = i
			}
		}
		if best >= 0 {
			out = append(out, m.Issued[best])
		}
	}
	return out
}

func has(l []api.Version, v api.Version) bool {
	return slices.ContainsFunc(l, func(x api.Version) bool { return alike(x, v) })
}

// sides is what of l the filter of r lets through, and what it does not.
func sides(r api.Repl, l []api.Version) (in, out []api.Version) {
	for _, v := range l {
		if modelLets(r, v) {
			in = append(in, v)
		} else {
			out = append(out, v)
		}
	}
	return in, out
}

// all is what the six functions tell.
type all struct {
	heads         []api.Head
	target, store [][]api.Version // of replicas from -1 to api.MaxRepl + 1
	kept, done    bool
	bound         int
}

func told(m api.Mesh) all {
	a := all{heads: Heads(m), kept: Kept(m), done: Done(m), bound: Bound(m)}
	for r := -1; r <= api.MaxRepl+1; r++ {
		a.target = append(a.target, Target(m, r))
		a.store = append(a.store, Store(m, r))
	}
	return a
}

// model is what they tell by the promise's words, of a mesh that calls told.
func model(m api.Mesh) all {
	last := modelLast(m)
	a := all{kept: true, done: true, bound: 6 * m.Size}
	for _, v := range last {
		a.heads = append(a.heads, api.Head{Item: v.Item, S: v.S})
		a.kept = a.kept && slices.ContainsFunc(m.Repls, func(r api.Repl) bool { return has(r.Held, v) })
	}
	for r := -1; r <= api.MaxRepl+1; r++ {
		var target, store []api.Version
		if 1 <= r && r <= m.Size {
			target, _ = sides(m.Repls[r-1], last)
			store, _ = sides(m.Repls[r-1], m.Repls[r-1].Held)
		}
		a.target, a.store = append(a.target, target), append(a.store, store)
	}
	for i, r := range m.Repls {
		a.bound += 4 * len(r.Held)
		a.done = a.done && alike(r.Views[r.ID-1].Seen, a.heads) && alike(a.store[i+2], a.target[i+2])
		_, custody := sides(r, r.Held)
		for _, v := range custody {
			wanted := slices.ContainsFunc(m.Repls, func(x api.Repl) bool { return modelLets(x, v) })
			a.done = a.done && has(last, v) && !wanted
		}
	}
	return a
}

// same tells whether a and b are alike in all.
func same(a, b all) bool { return alike(a, b) }

// wantModel asks that all is told by the promise's words, and that m is as it was.
func wantModel(t *testing.T, m api.Mesh) all {
	t.Helper()
	was := copyOf(m)
	got, want := told(m), model(m)
	if !same(got, want) {
		t.Fatalf("%+v, want\n%+v, of\n%+v", got, want, m)
	}
	if !alike(m, was) {
		t.Fatalf("%+v was\n%+v", m, was)
	}
	return got
}
