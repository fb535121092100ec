package mesh

import (
	"slices"
	"testing"

	"cardamom/api"
	"cardamom/eval"
	"cardamom/repl"
)

// wantAllOfIt asks that each has in store just what its filter lets through of what was written last, and that in custody is only what no filter does.
func wantAllOfIt(t *testing.T, what string, m api.Mesh) {
	t.Helper()
	last := lastOf(m.Issued)
	for _, r := range m.Repls {
		f := repl.Filter(r)
		for item, v := range last {
			if eval.Lets(f, v) && !isIn(r.Held, v) {
				t.Fatalf("%s: %d wants and has not the last of %d, %+v, of\n%+v", what, r.ID, item, v, m)
			}
		}
		for _, v := range r.Held {
			if !alikeVersion(v, last[v.Item]) {
				t.Fatalf("%s: %d holds %+v, which is not the last, of\n%+v", what, r.ID, v, m)
			}
			if eval.Lets(f, v) {
				continue
			}
			for _, x := range m.Repls {
				if eval.Lets(repl.Filter(x), v) {
					t.Fatalf("%s: %d has %+v in custody, which %d wants, of\n%+v", what, r.ID, v, x.ID, m)
				}
			}
		}
	}
}

// bound is goal.Bound, by its chapter's words.
func bound(m api.Mesh) int {
	n := 6 * m.Size
	for _, r := range m.Repls {
		n += 4 * len(r.Held)
	}
	return n
}

// answers is what is in store, and what anyone answers to what is asked of it.
func answers(m api.Mesh) []api.Version {
	var out []api.Version
	for _, r := range m.Repls {
		f := repl.Filter(r)
		for _, v := range r.Held {
			if eval.Lets(f, v) {
				out = append(out, v)
			}
		}
		for item := 1; item <= api.MaxItem; item++ {
			if v, ok := repl.Get(r, item); ok {
				out = append(out, v)
			}
		}
		out = append(append(out, api.Version{Item: -r.ID}), repl.Query(r, api.Filter{Op: api.All})...)
	}
	return out
}

// known tells whether each knows how often each filter was set.
func known(m api.Mesh) bool {
	for _, r := range m.Repls {
		for i, x := range m.Repls {
			if r.Views[r.ID-1].Epochs[i] != x.Views[i].Epochs[i] {
				return false
			}
		}
	}
	return true
}

// TestAllOfIt: W3: when nothing is written any more, each has all of what it wants, and nothing that another wants in custody, behind so many Rounds as goal.Bound says, whatever was done ahead of them; and from then on.
func TestAllOfIt(t *testing.T) {
	t.Parallel()
	for run := range 400 {
		c := chance(3000 + run)
		size := 1 + run%5
		m := begun(t, size, shapes(size)[run/5%5], 1+c.below(4), api.MaxItem+c.below(3))
		for range c.of(0, 3, 20, 60, 150) {
			m, _ = Do(m, c.step(m))
		}
		rounds := bound(m)
		for range rounds {
			m = Round(m)
		}
		wantAllOfIt(t, "behind the Rounds", m)
		m = Round(m)
		wantAllOfIt(t, "behind one more", m)
	}
}

// TestStill: W4: then nothing that is told, lost, twice, late, changes what is in store, or what anyone answers; another Round neither.
func TestStill(t *testing.T) {
	t.Parallel()
	for run := range 120 {
		c := chance(5000 + run)
		size := 2 + run%4
		m := begun(t, size, shapes(size)[run/5%5], 1+c.below(4), api.MaxItem+c.below(3))
		for range 100 {
			m, _ = Do(m, c.step(m))
		}
		for range bound(m) {
			m = Round(m)
		}
		if !known(m) {
			t.Fatalf("run %d: a filter was set and is not known of, of\n%+v", run, m)
		}
		want := answers(m)
		for range 100 {
			s := c.step(m)
			if s.Kind <= api.StepFilter {
				continue
			}
			m, _ = Do(m, s)
			if c.below(9) == 0 {
				m = Round(m)
			}
			if !slices.EqualFunc(answers(m), want, alikeVersion) {
				t.Fatalf("run %d, %+v changes what is answered, of\n%+v", run, s, m)
			}
		}
		wantAllOfIt(t, "at the end", m)
	}
}

// TestOneByOne: of each two filters, and each place of each thing, all comes to where it is wanted, and what none wants is held by whoever has it.
func TestOneByOne(t *testing.T) {
	for _, a := range texts[:6] {
		for _, b := range texts[:6] {
			m := begun(t, 3, row(3), 1, 6)
			m = does(t, m, filter(1, a), filter(3, b))
			for item := 1; item <= 6; item++ {
				m = does(t, m, put(1+item%3, item, []api.Attr{{Key: 1, Val: item}}, []string{"", "a", "b", "ab"}[item%4], "x"))
			}
			m = does(t, m, filter(2, "!*"))
			for range bound(m) {
				m = Round(m)
			}
			wantAllOfIt(t, a+" and "+b, m)
			wantNothingLost(t, m)
			for _, v := range m.Issued {
				ids := 0
				for _, r := range m.Repls {
					if isIn(r.Held, v) {
						ids++
					}
				}
				wanted := 0
				for _, r := range m.Repls {
					if eval.Lets(repl.Filter(r), v) {
						wanted++
					}
				}
				if wanted > 0 && ids != wanted || ids == 0 {
					t.Errorf("%s and %s: %+v is held by %d, wanted by %d", a, b, v, ids, wanted)
				}
			}
		}
	}
}
