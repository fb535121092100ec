package mesh

import (
	"fmt"
	"slices"
	"testing"

	"cardamom/api"
	"cardamom/eval"
	"cardamom/gput"
	"cardamom/offer"
	"cardamom/repl"
	"cardamom/stamp"
	"cardamom/take"
)

var texts = []string{"*", "^a", "^b", "!^a", "!*", "@1:2-9", "^ab|@0=3", "^a&@1:0-50", "", "@", "^A"}

// write is a step by chance that writes, deletes, or sets a filter.
func (c *chance) write(r int) api.Step {
	item := 1 + c.below(api.MaxItem)
	switch c.below(6) {
	case 0:
		return remove(r, item)
	case 1:
		return filter(r, texts[c.below(len(texts))])
	}
	var attrs []api.Attr
	for k := range c.below(3) {
		attrs = append(attrs, api.Attr{Key: k, Val: c.below(13)})
	}
	return put(r, item, attrs, []string{"", "a", "ab", "b", "ba", "abcdef"}[c.below(6)], []string{"", "body", "\x00\xff"}[c.below(3)])
}

// step is a step by chance: mostly one that can be done, now and then one that none can do.
func (c *chance) step(m api.Mesh) api.Step {
	r, i := 1+c.below(m.Size), c.below(max(len(m.Fly), 1))
	if c.below(20) == 0 {
		r, i = c.of(-1, 0, m.Size+1), c.of(-1, len(m.Fly), api.MaxFly)
	}
	switch c.below(18) {
	case 0, 1, 2:
		return c.write(r)
	case 3, 4, 5, 6, 7:
		if c.below(8) == 0 || len(m.Edges) == 0 {
			return tells(r, 1+c.below(5))
		}
		e := m.Edges[c.below(len(m.Edges))]
		if c.below(2) == 0 {
			return tells(e[0], e[1])
		}
		return tells(e[1], e[0])
	case 8, 9, 10, 11, 12:
		return come(i)
	case 13:
		return lose(i)
	case 14, 15:
		return twice(i)
	case 16:
		return turn(i, c.below(40)*256+c.below(256))
	}
	s := c.write(r)
	s.Kind, s.I, s.Item = c.of(0, 1, 3, 9, 5, 6), i, c.of(0, 1, 7)
	return s
}

// after is what a step leaves, and what it tells, by the promise's words.
func after(m api.Mesh, s api.Step) (api.Mesh, api.Errno) {
	m = copyOf(m)
	switch s.Kind {
	case 1, 2, 3:
		return afterWrite(m, s)
	case 4:
		return afterTell(m, s)
	case 5, 6:
		if s.I < 0 || s.I >= len(m.Fly) {
			return m, api.ENone
		}
		gram := m.Fly[s.I]
		m.Fly = slices.Delete(m.Fly, s.I, s.I+1)
		if s.Kind == 6 {
			return m, api.OK
		}
		if gram.Turned {
			return m, api.EForm
		}
		g, _ := gput.Take([]byte(gram.B), m.Size)
		var e api.Errno
		m.Repls[gram.To-1], e = take.From(m.Repls[gram.To-1], g)
		return m, e
	case 7:
		if s.I < 0 || s.I >= len(m.Fly) || len(m.Fly) == 20 {
			return m, api.ENone
		}
		m.Fly = append(m.Fly, m.Fly[s.I])
		return m, api.OK
	case 8:
		if s.I < 0 || s.I >= len(m.Fly) || m.Fly[s.I].Turned {
			return m, api.ENone
		}
		b := []byte(m.Fly[s.I].B)
		if bits := byte(s.To); s.To >= 0 && bits != 0 {
			b[s.To/256%len(b)] ^= bits
			m.Fly[s.I].B, m.Fly[s.I].Turned = string(b), true
		}
		return m, api.OK
	}
	return m, api.EArg
}

func afterWrite(m api.Mesh, s api.Step) (api.Mesh, api.Errno) {
	if s.R < 1 || s.R > m.Size {
		return m, api.EArg
	}
	r := &m.Repls[s.R-1]
	var v api.Version
	var e api.Errno
	switch s.Kind {
	case 1:
		*r, v, e = repl.Put(*r, s.Item, s.Attrs, s.Tag, s.Text)
	case 2:
		*r, v, e = repl.Delete(*r, s.Item)
	case 3:
		*r, e = repl.SetFilter(*r, s.Text)
		return m, e
	}
	if e == api.OK {
		m.Issued = append(m.Issued, v)
	}
	return m, e
}

func afterTell(m api.Mesh, s api.Step) (api.Mesh, api.Errno) {
	if !slices.Contains(m.Edges, [2]int{min(s.R, s.To), max(s.R, s.To)}) {
		return m, api.EArg
	}
	if len(m.Fly) == 20 {
		return m, api.ELost
	}
	g, _ := offer.To(m.Repls[s.R-1], s.To, m.Batch)
	b, _ := gput.Put(g, m.Size)
	m.Fly = append(m.Fly, api.Gram{From: s.R, To: s.To, B: string(b)})
	return m, api.OK
}

func alikeVersion(a, b api.Version) bool {
	return a.Item == b.Item && a.S == b.S && a.Dead == b.Dead && a.Tag == b.Tag && a.Body == b.Body && slices.Equal(a.Attrs, b.Attrs)
}

func isIn(l []api.Version, v api.Version) bool {
	return slices.ContainsFunc(l, func(x api.Version) bool { return alikeVersion(x, v) })
}

// lastOf is of each thing what was written last.
func lastOf(l []api.Version) map[int]api.Version {
	out := map[int]api.Version{}
	for _, v := range l {
		if x, ok := out[v.Item]; !ok || stamp.Compare(x.S, v.S) < 0 {
			out[v.Item] = v
		}
	}
	return out
}

// wantNothingMadeUp asks for W1: what is held was written, what was seen and is wanted is held; and what was written is numbered one by one, by each replica.
func wantNothingMadeUp(t *testing.T, m api.Mesh) {
	t.Helper()
	written := map[api.Stamp]api.Version{}
	count := map[int]int{}
	for _, v := range m.Issued {
		count[v.S.R]++
		if _, ok := written[v.S]; ok || v.S.N != count[v.S.R] || v.S.R < 1 || v.S.R > m.Size {
			t.Fatalf("%+v is written, behind %+v", v, m.Issued)
		}
		written[v.S] = v
	}
	for _, r := range m.Repls {
		if r.N != count[r.ID] {
			t.Fatalf("%d wrote %d, not %d", r.ID, r.N, count[r.ID])
		}
		last := 0
		for _, v := range r.Held {
			if w, ok := written[v.S]; !ok || !alikeVersion(v, w) || v.Item <= last {
				t.Fatalf("%+v is held by %d, was written as %+v", v, r.ID, w)
			}
			last = v.Item
		}
		own, f := repl.Own(r), repl.Filter(r)
		for _, h := range own.Seen {
			if v, ok := written[h.S]; !ok || v.Item != h.Item || eval.Lets(f, v) && !isIn(r.Held, v) {
				t.Fatalf("%+v was seen by %d, which wants %s, and is not held", v, r.ID, own.Filter)
			}
		}
	}
}

// wantNothingLost asks for W2: of each thing some replica holds what was written last.
func wantNothingLost(t *testing.T, m api.Mesh) {
	t.Helper()
	for item, v := range lastOf(m.Issued) {
		if !slices.ContainsFunc(m.Repls, func(r api.Repl) bool { return isIn(r.Held, v) }) {
			t.Fatalf("none holds %+v, the last of %d: %+v", v, item, m)
		}
	}
}

// rank is the measure of W5: of each two replicas how many filters that the one set the other does not know of, and, less than one of these in all, how often the last of a thing was not seen.
func rank(m api.Mesh) int {
	stale, missing := 0, 0
	for _, r := range m.Repls {
		own := r.Views[r.ID-1]
		for i, n := range own.Epochs {
			stale += max(m.Repls[i].Views[i].Epochs[i]-n, 0)
		}
		for item, v := range lastOf(m.Issued) {
			if !slices.Contains(own.Seen, api.Head{Item: item, S: v.S}) {
				missing++
			}
		}
	}
	return stale*(api.MaxRepl*api.MaxItem+1) + missing
}

// kept is a mesh that was told, and what it was then.
type kept struct{ m, was api.Mesh }

// TestRuns: steps of all kinds, by chance: each does what the promise's words say; W1, W2 and W5 hold behind each; and a mesh that is kept is as it was, however the later ones go on.
func TestRuns(t *testing.T) {
	t.Parallel()
	done := map[string]int{}
	for run := range 100 {
		c := chance(run)
		size := 1 + run%5
		m := begun(t, size, shapes(size)[run/5%5], 1+c.below(4), c.of(0, 0, 1, 2, 3, 6, 8))
		var old []kept
		for n := range 150 {
			s := c.step(m)
			want, e := after(m, s)
			got, gotE := Do(m, s)
			if gotE != e || !alike(got, want) {
				t.Fatalf("run %d, %+v: %d, %+v\nwant %d, %+v", run, s, gotE, got, e, want)
			}
			if !Same(got, want) || Same(got, m) != alike(got, m) {
				t.Fatalf("run %d, %+v: Same", run, s)
			}
			done[fmt.Sprint(s.Kind, " ", e)]++
			rises := rank(got) > rank(m)
			wrote := e == api.OK && s.Kind <= api.StepFilter
			if rises && !wrote {
				t.Fatalf("run %d, %+v: the measure rises from %d to %d", run, s, rank(m), rank(got))
			}
			m = got
			wantNothingMadeUp(t, m)
			wantNothingLost(t, m)
			if n%10 == 0 {
				old = append(old, kept{m, copyOf(m)})
			}
		}
		for i, k := range old {
			wantMesh(t, fmt.Sprintf("run %d, kept, number %d", run, i), k.m, k.was)
		}
	}
	for _, what := range []string{"0 1", "1 0", "1 1", "1 4", "2 0", "2 1", "2 3", "3 0", "3 1", "3 2", "3 4", "4 0", "4 1", "4 6", "5 0", "5 2", "5 3", "6 0", "6 3", "7 0", "7 3", "8 0", "8 3", "9 1"} {
		if done[what] < 10 {
			t.Errorf("kind and error %s: %d times only", what, done[what])
		}
	}
}

// TestLongRuns: W1, W2 and W5 hold over long runs with Rounds in them too, and the same steps tell the same.
func TestLongRuns(t *testing.T) {
	t.Parallel()
	for run := range 25 {
		var ends []api.Mesh
		for range 2 {
			c := chance(1000 + run)
			size := 1 + run%5
			m := begun(t, size, shapes(size)[run/5%5], 1+c.below(4), c.of(0, 0, 1, 2, 3, 6, 8))
			for n := range 1000 {
				was := rank(m)
				s := c.step(m)
				var e api.Errno
				m, e = Do(m, s)
				if rank(m) > was && (e != api.OK || s.Kind > api.StepFilter) {
					t.Fatalf("run %d, %+v: the measure rises from %d to %d", run, s, was, rank(m))
				}
				if c.below(30) == 0 {
					was = rank(m)
					if m = Round(m); rank(m) > was {
						t.Fatalf("run %d, a Round: the measure rises from %d to %d", run, was, rank(m))
					}
				}
				if n%7 == 0 || n == 999 {
					wantNothingMadeUp(t, m)
					wantNothingLost(t, m)
				}
			}
			ends = append(ends, m)
		}
		wantMesh(t, fmt.Sprintf("run %d anew", run), ends[1], ends[0])
	}
}
