package rank

import (
	"fmt"
	"slices"
	"testing"

	"cardamom/api"
	"cardamom/goal"
	"cardamom/mesh"
	"cardamom/repl"
)

var texts = []string{"*", "^a", "^b", "!^a", "!*", "@1:2-9", "^ab|@0=3", "^a&@1:0-50", "", "@", "^A"}

// write is a step by chance that writes, deletes, or sets a filter.
func (c *chance) write(r int) api.Step {
	item := 1 + c.below(api.MaxItem)
	switch c.below(6) {
	case 0:
		return remove(r, item)
	case 1:
		return filter(r, texts[c.below(len(texts))])
	}
	var attrs []api.Attr
	for k := range c.below(3) {
		attrs = append(attrs, api.Attr{Key: k, Val: c.below(13)})
	}
	return put(r, item, attrs, []string{"", "a", "ab", "b", "ba", "abcdef"}[c.below(6)], []string{"", "body", "\x00\xff"}[c.below(3)])
}

// step is a step by chance: mostly one that can be done, now and then one that none can do.
func (c *chance) step(m api.Mesh) api.Step {
	r, i := 1+c.below(m.Size), c.below(max(len(m.Fly), 1))
	if c.below(20) == 0 {
		r, i = c.of(-1, 0, m.Size+1), c.of(-1, len(m.Fly), api.MaxFly)
	}
	switch c.below(18) {
	case 0, 1, 2:
		return c.write(r)
	case 3, 4, 5, 6, 7:
		if c.below(8) == 0 || len(m.Edges) == 0 {
			return tells(r, 1+c.below(5))
		}
		e := m.Edges[c.below(len(m.Edges))]
		if c.below(2) == 0 {
			return tells(e[0], e[1])
		}
		return tells(e[1], e[0])
	case 8, 9, 10, 11, 12:
		return come(i)
	case 13:
		return lose(i)
	case 14, 15:
		return twice(i)
	case 16:
		return turn(i, c.below(40)*256+c.below(256))
	}
	s := c.write(r)
	s.Kind, s.I, s.Item = c.of(0, 1, 3, 9, 5, 6), i, c.of(0, 1, 7)
	return s
}

// run is a mesh by chance, behind so many steps by chance.
func (c *chance) run(t *testing.T, number, steps, quota int) api.Mesh {
	t.Helper()
	size := 1 + number%5
	m := begun(t, size, shapes(size)[number/5%5], 1+c.below(4), quota)
	for range steps {
		m, _ = mesh.Do(m, c.step(m))
	}
	return m
}

// wantNoHigher asks for W5 of a step, which told e.
func wantNoHigher(t *testing.T, was, now all, s api.Step, e api.Errno) {
	t.Helper()
	if now.rank > was.rank && (e != api.OK || s.Kind < api.StepPut || s.Kind > api.StepFilter) {
		t.Fatalf("%+v rises to %+v by %+v, which tells %d", was, now, s, e)
	}
}

// TestRuns: W5, over long runs of steps of all kinds, and of Rounds, whatever the quotas are; and all three tell behind each what the promise's words say.
func TestRuns(t *testing.T) {
	t.Parallel()
	counts := map[string]int{}
	for number := range 150 {
		c := chance(number)
		m := c.run(t, number, 0, c.of(0, 0, 1, 2, 3, 4, 5, 6, 7, 8))
		was := wantModel(t, m)
		for range 150 {
			s := c.step(m)
			var e api.Errno
			m, e = mesh.Do(m, s)
			now := wantModel(t, m)
			wantNoHigher(t, was, now, s, e)
			counts[fmt.Sprint(s.Kind, " ", e, " by ", min(max(now.rank-was.rank, -1), 1))]++
			if was = now; c.below(40) == 0 {
				m = mesh.Round(m)
				if now = wantModel(t, m); now.rank > was.rank {
					t.Fatalf("%+v rises to %+v by a Round", was, now)
				}
				counts[fmt.Sprint("Round by ", min(max(now.rank-was.rank, -1), 1))]++
				was = now
			}
			counts[fmt.Sprint("stale ", now.stale > 0, ", missing ", now.missing > 0)]++
		}
	}
	for _, what := range []string{"1 0 by 1", "2 0 by 1", "3 0 by 1", "5 0 by -1", "5 0 by 0", "5 2 by 0", "4 0 by 0", "6 0 by 0", "7 0 by 0", "8 0 by 0", "Round by -1", "Round by 0", "stale false, missing false", "stale false, missing true", "stale true, missing false", "stale true, missing true"} {
		if counts[what] < 20 {
			t.Errorf("%s: %d times only", what, counts[what])
		}
	}
}

// TestLongRuns: W5 over runs that are longer still.
func TestLongRuns(t *testing.T) {
	t.Parallel()
	for number := range 40 {
		c := chance(1000 + number)
		m := c.run(t, number, 0, c.of(0, 0, 1, 2, 3, 4, 5, 6, 7, 8))
		was := told(m)
		for range 1000 {
			s := c.step(m)
			var e api.Errno
			m, e = mesh.Do(m, s)
			now := told(m)
			wantNoHigher(t, was, now, s, e)
			if was = now; c.below(30) == 0 {
				m = mesh.Round(m)
				if now = told(m); now.rank > was.rank {
					t.Fatalf("%+v rises to %+v by a Round, in\n%+v", was, now, m)
				}
				was = now
			}
		}
	}
}

// forgets tells whether what was told made some of them have less seen than before.
func forgets(was, now all) bool { return now.missing > was.missing && now.stale < was.stale }

// TestForgetting: who hears of a filter may have less seen than before, and even so Rank is less.
func TestForgetting(t *testing.T) {
	t.Parallel()
	count := 0
	for number := range 200 {
		c := chance(9000 + number)
		m := c.run(t, number, 60, c.of(2, 6, 8))
		for range 60 {
			if c.below(2) == 0 {
				m, _ = mesh.Do(m, filter(1+c.below(m.Size), texts[c.below(len(texts))]))
			}
			was := told(m)
			if m = mesh.Round(m); forgets(was, told(m)) {
				count++
			}
			if now := told(m); now.rank > was.rank {
				t.Fatalf("%+v rises to %+v by a Round, in\n%+v", was, now, m)
			}
		}
	}
	if count < 5 {
		t.Errorf("%d times only", count)
	}
}

// TestBehindBound: W3: behind as many Rounds as goal.Bound told ahead of them nothing is missing, and none is stale, if each quota is api.MaxItem or more; and so it stays.
func TestBehindBound(t *testing.T) {
	t.Parallel()
	for number := range 400 {
		c := chance(3000 + number)
		m := c.run(t, number, c.of(0, 3, 20, 60, 150), api.MaxItem+c.below(3))
		was := told(m)
		for range goal.Bound(m) {
			m = mesh.Round(m)
			now := told(m)
			if now.rank > was.rank {
				t.Fatalf("run %d: %+v rises to %+v by a Round", number, was, now)
			}
			was = now
		}
		for more := range 3 {
			if a := wantModel(t, m); a.rank != 0 {
				t.Fatalf("run %d: %+v, %d Rounds behind the last one, of\n%+v", number, a, more, m)
			}
			m = mesh.Round(m)
		}
		// And nothing that is on its way, be it as late as it may, makes it rise.
		for len(m.Fly) > 0 {
			m, _ = mesh.Do(m, come(c.below(len(m.Fly))))
			want(t, "what is late", m, 0, 0)
		}
	}
}

// TestNought: Rank is 0 just where each knows how often each filter was set, and what each has seen is goal.Heads.
func TestNought(t *testing.T) {
	t.Parallel()
	counts := map[bool]int{}
	for number := range 300 {
		c := chance(7000 + number)
		m := c.run(t, number, c.of(2, 5, 10), 8)
		for range 12 {
			if m = mesh.Round(m); Rank(m) == 0 {
				break
			}
		}
		for i := range m.Repls {
			for k := range m.Repls {
				other := copyOf(m)
				other.Repls[i].Views[i].Epochs[k] -= c.of(0, 0, 0, 1)
				if l := other.Repls[i].Views[i].Seen; len(l) > 0 && c.below(4) == 0 {
					l[c.below(len(l))].S.N += c.of(-1, 1)
				}
				// Less of itself is no less of others; then the others have more than there is.
				if i != k || slices.Equal(repl.Own(other.Repls[i]).Epochs, repl.Own(m.Repls[i]).Epochs) {
					nought := isNought(other)
					counts[nought]++
					if (Rank(other) == 0) != nought {
						t.Fatalf("%d, of\n%+v", Rank(other), other)
					}
				}
			}
		}
	}
	if counts[true] < 100 || counts[false] < 100 {
		t.Errorf("%v", counts)
	}
}

// TestSmallQuotas: where a quota is below api.MaxItem something may be missing for ever, and Rank does not rise even so.
func TestSmallQuotas(t *testing.T) {
	m := begun(t, 3, row(3), 4, 0)
	m = does(t, m, filter(1, "^a"), filter(2, "^a"), filter(3, "^b"))
	m = does(t, m, put(1, 1, nil, "a", "x"), put(3, 2, nil, "b", "y"), put(3, 1, nil, "b", "z"))
	was := wantModel(t, m)
	for range goal.Bound(m) + 20 {
		m = mesh.Round(m)
		now := wantModel(t, m)
		if now.rank > was.rank {
			t.Fatalf("%+v rises to %+v by a Round", was, now)
		}
		was = now
	}
	if was.rank == 0 {
		t.Errorf("nothing is missing: %+v", m)
	}
}
