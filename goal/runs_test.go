package goal

import (
	"fmt"
	"testing"

	"cardamom/api"
	"cardamom/mesh"
	"cardamom/repl"
)

var texts = []string{"*", "^a", "^b", "!^a", "!*", "@1:2-9", "^ab|@0=3", "^a&@1:0-50", "", "@", "^A"}

// write is a step by chance that writes, deletes, or sets a filter.
func (c *chance) write(r int) api.Step {
	item := 1 + c.below(api.MaxItem)
	switch c.below(6) {
	case 0:
		return remove(r, item)
	case 1:
		return filter(r, texts[c.below(len(texts))])
	}
	var attrs []api.Attr
	for k := range c.below(3) {
		attrs = append(attrs, api.Attr{Key: k, Val: c.below(13)})
	}
	return put(r, item, attrs, []string{"", "a", "ab", "b", "ba", "abcdef"}[c.below(6)], []string{"", "body", "\x00\xff"}[c.below(3)])
}

// step is a step by chance: mostly one that can be done, now and then one that none can do.
func (c *chance) step(m api.Mesh) api.Step {
	r, i := 1+c.below(m.Size), c.below(max(len(m.Fly), 1))
	if c.below(20) == 0 {
		r, i = c.of(-1, 0, m.Size+1), c.of(-1, len(m.Fly), api.MaxFly)
	}
	switch c.below(18) {
	case 0, 1, 2:
		return c.write(r)
	case 3, 4, 5, 6, 7:
		if c.below(8) == 0 || len(m.Edges) == 0 {
			return tells(r, 1+c.below(5))
		}
		e := m.Edges[c.below(len(m.Edges))]
		if c.below(2) == 0 {
			return tells(e[0], e[1])
		}
		return tells(e[1], e[0])
	case 8, 9, 10, 11, 12:
		return come(i)
	case 13:
		return lose(i)
	case 14, 15:
		return twice(i)
	case 16:
		return turn(i, c.below(40)*256+c.below(256))
	}
	s := c.write(r)
	s.Kind, s.I, s.Item = c.of(0, 1, 3, 9, 5, 6), i, c.of(0, 1, 7)
	return s
}

// run is a mesh by chance, behind so many steps by chance.
func (c *chance) run(t *testing.T, number, steps, quota int) api.Mesh {
	t.Helper()
	size := 1 + number%5
	m := begun(t, size, shapes(size)[number/5%5], 1+c.below(4), quota)
	for range steps {
		m, _ = mesh.Do(m, c.step(m))
	}
	return m
}

// TestRuns: W2, over long runs of steps of all kinds, whatever the quotas are: Kept always is so; and all six tell behind each step what the promise's words say.
func TestRuns(t *testing.T) {
	t.Parallel()
	counts := map[string]int{}
	for number := range 100 {
		c := chance(number)
		m := c.run(t, number, 0, c.of(0, 0, 1, 2, 3, 6, 8))
		for n := range 150 {
			s := c.step(m)
			if m, _ = mesh.Do(m, s); c.below(40) == 0 {
				m = mesh.Round(m)
			}
			a := wantModel(t, m)
			if !a.kept {
				t.Fatalf("run %d, step %d, %+v: it is lost, of\n%+v", number, n, s, m)
			}
			counts[fmt.Sprint("done ", a.done)]++
			for r := range m.Size {
				counts[fmt.Sprint("as it is to be ", alike(a.target[r+2], a.store[r+2]))]++
			}
		}
	}
	for _, what := range []string{"done true", "done false", "as it is to be true", "as it is to be false"} {
		if counts[what] < 100 {
			t.Errorf("%s: %d times only", what, counts[what])
		}
	}
}

// TestKeptOverLongRuns: W2 over runs that are longer still.
func TestKeptOverLongRuns(t *testing.T) {
	t.Parallel()
	for number := range 25 {
		c := chance(1000 + number)
		m := c.run(t, number, 0, c.of(0, 0, 1, 2, 3, 6, 8))
		for n := range 1000 {
			s := c.step(m)
			if m, _ = mesh.Do(m, s); c.below(30) == 0 {
				m = mesh.Round(m)
			}
			if !Kept(m) {
				t.Fatalf("run %d, step %d, %+v: it is lost, of\n%+v", number, n, s, m)
			}
		}
	}
}

// TestDoneBehindBound: W3: behind as many Rounds as Bound told ahead of them all is done, if each quota is api.MaxItem or more; and behind some more; Kept all along.
func TestDoneBehindBound(t *testing.T) {
	t.Parallel()
	for number := range 400 {
		c := chance(3000 + number)
		m := c.run(t, number, c.of(0, 3, 20, 60, 150), api.MaxItem+c.below(3))
		for range Bound(m) {
			if m = mesh.Round(m); !Kept(m) {
				t.Fatalf("run %d: it is lost, of\n%+v", number, m)
			}
		}
		for more := range 5 {
			if a := wantModel(t, m); !a.done || !a.kept {
				t.Fatalf("run %d: it is not done, %d Rounds behind the last one, of\n%+v", number, more, m)
			}
			for r := 1; r <= m.Size; r++ {
				wantVersions(t, "what is in store", Store(m, r), Target(m, r)...)
			}
			m = mesh.Round(m)
		}
	}
}

// stale tells whether there is a filter that was set and that one of them does not know of.
func stale(m api.Mesh) bool {
	for _, r := range m.Repls {
		for i, x := range m.Repls {
			if repl.Own(r).Epochs[i] < repl.Own(x).Epochs[i] {
				return true
			}
		}
	}
	return false
}

// TestStill: W4: then nothing that is told, lost, comes twice, or late, changes what is in store.
func TestStill(t *testing.T) {
	t.Parallel()
	for number := range 150 {
		c := chance(5000 + number)
		m := c.run(t, number, 100, api.MaxItem+c.below(3))
		if m = rounds(m, Bound(m)); stale(m) {
			t.Fatalf("run %d: a filter was set and is not known of, of\n%+v", number, m)
		}
		want := told(m)
		for range 100 {
			s := c.step(m)
			if s.Kind <= api.StepFilter {
				continue
			}
			if m, _ = mesh.Do(m, s); c.below(9) == 0 {
				m = mesh.Round(m)
			}
			got := told(m)
			// In custody there may be less of it, and again more, so Bound need not stay.
			got.bound = want.bound
			if !same(got, want) {
				t.Fatalf("run %d, %+v changes\n%+v to\n%+v", number, s, want, got)
			}
		}
	}
}

// TestSmallQuotas: where a quota is below api.MaxItem it need not be done ever, but what was written last is held even so.
func TestSmallQuotas(t *testing.T) {
	m := begun(t, 3, row(3), 4, 0)
	m = does(t, m, filter(1, "^a"), filter(2, "^a"), filter(3, "^b"))
	m = does(t, m, put(1, 1, nil, "a", "x"), put(3, 2, nil, "b", "y"), put(3, 1, nil, "b", "z"))
	for range Bound(m) + 20 {
		m = mesh.Round(m)
		if a := wantModel(t, m); !a.kept {
			t.Fatalf("it is lost: %+v", m)
		}
	}
	if Done(m) {
		t.Errorf("2 holds what it has no room for: %+v", m)
	}
}
