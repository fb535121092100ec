package rank

import (
	"slices"
	"testing"

	"cardamom/api"
	"cardamom/goal"
	"cardamom/repl"
)

// all is what the three functions tell.
type all struct{ stale, missing, rank int }

func told(m api.Mesh) all { return all{Stale(m), Missing(m), Rank(m)} }

// isBehind tells whether a is behind b.
func isBehind(a, b api.Stamp) bool {
	return slices.Compare([]int{a.L, a.R, a.N}, []int{b.L, b.R, b.N}) > 0
}

// lastOf is the last stamp of a thing, if it was written.
func lastOf(m api.Mesh, item int) (api.Stamp, bool) {
	var last api.Stamp
	there := false
	for _, v := range m.Issued {
		if v.Item == item && (!there || isBehind(v.S, last)) {
			last, there = v.S, true
		}
	}
	return last, there
}

// model is what they tell by the promise's words, of a mesh that calls told.
func model(m api.Mesh) all {
	var a all
	for _, r := range m.Repls {
		for _, x := range m.Repls {
			own, that := repl.Own(r).Epochs[x.ID-1], repl.Own(x).Epochs[x.ID-1]
			if r.ID != x.ID && own < that {
				a.stale += that - own
			}
		}
		for item := 1; item <= api.MaxItem; item++ {
			if s, there := lastOf(m, item); there && !slices.Contains(repl.Own(r).Seen, api.Head{Item: item, S: s}) {
				a.missing++
			}
		}
	}
	a.rank = a.stale*(5*6+1) + a.missing
	return a
}

// isNought tells whether all know how often each filter was set, and each has seen just goal.Heads.
func isNought(m api.Mesh) bool {
	heads := goal.Heads(m)
	for _, r := range m.Repls {
		for i, x := range m.Repls {
			if repl.Own(r).Epochs[i] != repl.Own(x).Epochs[i] {
				return false
			}
		}
		if !slices.Equal(repl.Own(r).Seen, heads) {
			return false
		}
	}
	return true
}

// wantModel asks that all is told by the promise's words, and that m is as it was.
func wantModel(t *testing.T, m api.Mesh) all {
	t.Helper()
	was := copyOf(m)
	got, want := told(m), model(m)
	if got != want || (got.rank == 0) != isNought(m) {
		t.Fatalf("%+v, want %+v, of\n%+v", got, want, m)
	}
	if !alike(m, was) {
		t.Fatalf("%+v was\n%+v", m, was)
	}
	return got
}

func want(t *testing.T, what string, m api.Mesh, stale, missing int) {
	t.Helper()
	if got, w := told(m), (all{stale, missing, 31*stale + missing}); got != w {
		t.Fatalf("%s: %+v, want %+v, of\n%+v", what, got, w, m)
	}
}
