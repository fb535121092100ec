package rank

import (
	"math"
	"slices"
	"strings"
	"testing"

	"cardamom/api"
	"cardamom/goal"
	"cardamom/mesh"
)

// odd is meshes that no call tells.
func odd(t *testing.T) []api.Mesh {
	t.Helper()
	base := busy(t)
	made := func(do func(m *api.Mesh)) api.Mesh {
		m := copyOf(base)
		do(&m)
		return m
	}
	l := []api.Mesh{
		{}, {Size: 3}, {Size: 3, Batch: 1, Edges: row(3)}, {Edges: full(5), Repls: make([]api.Repl, 5)}, {Size: 2, Batch: 1, Edges: row(2), Repls: make([]api.Repl, 2), Fly: make([]api.Gram, 2)},
		{Size: math.MinInt, Batch: math.MinInt, Edges: [][2]int{{math.MinInt, math.MaxInt}}}, {Size: math.MaxInt, Batch: math.MaxInt, Edges: [][2]int{{math.MaxInt, math.MaxInt}}, Repls: base.Repls, Fly: base.Fly},
		made(func(m *api.Mesh) { m.Repls = m.Repls[:2] }), made(func(m *api.Mesh) { m.Repls = m.Repls[:1] }), made(func(m *api.Mesh) { m.Repls = m.Repls[1:] }), made(func(m *api.Mesh) { m.Repls = slices.Repeat(m.Repls, 3) }), made(func(m *api.Mesh) { m.Repls = nil }), made(func(m *api.Mesh) { m.Repls = make([]api.Repl, 300) }),
		made(func(m *api.Mesh) { slices.Reverse(m.Repls) }), made(func(m *api.Mesh) { m.Repls[0] = m.Repls[1] }), made(func(m *api.Mesh) { m.Repls[1] = api.Repl{} }),
		made(func(m *api.Mesh) { m.Fly = slices.Repeat(m.Fly, 9) }), made(func(m *api.Mesh) { m.Fly = make([]api.Gram, 500) }), made(func(m *api.Mesh) { m.Fly[0].B = strings.Repeat("\xff", 5000) }), made(func(m *api.Mesh) { m.Fly[0] = api.Gram{From: math.MinInt, To: math.MaxInt, B: "\x00"} }),
		made(func(m *api.Mesh) { m.Issued = make([]api.Version, 500) }), made(func(m *api.Mesh) { m.Issued = slices.Repeat(m.Issued, 99) }), made(func(m *api.Mesh) { m.Issued[0] = api.Version{Item: math.MinInt, Tag: strings.Repeat("\xff", 5000)} }), made(func(m *api.Mesh) { m.Issued = nil }),
		made(func(m *api.Mesh) { m.Edges = nil }), made(func(m *api.Mesh) { m.Edges = slices.Repeat(m.Edges, 50) }), made(func(m *api.Mesh) { slices.Reverse(m.Edges) }), made(func(m *api.Mesh) { m.Edges = make([][2]int, 3000) }),
	}
	for _, e := range [][2]int{{0, 1}, {1, 0}, {1, 1}, {2, 2}, {2, 1}, {3, 4}, {4, 3}, {1, 9}, {9, 9}, {-1, 1}, {1, -1}, {math.MinInt, 1}, {1, math.MaxInt}, {math.MaxInt, math.MinInt}} {
		l = append(l, made(func(m *api.Mesh) { m.Edges = append(m.Edges, e) }), made(func(m *api.Mesh) { m.Edges = [][2]int{e} }))
	}
	for _, n := range []int{math.MinInt, -1, 0, 1, 2, 4, 5, 6, math.MaxInt} {
		l = append(l, made(func(m *api.Mesh) { m.Size = n }), made(func(m *api.Mesh) { m.Batch = n }), made(func(m *api.Mesh) { m.Repls[0].ID = n }), made(func(m *api.Mesh) { m.Repls[1].ID = n }), made(func(m *api.Mesh) { m.Repls[1].Size = n }), made(func(m *api.Mesh) { m.Repls[1].L = n }), made(func(m *api.Mesh) { m.Repls[1].N = n }), made(func(m *api.Mesh) { m.Repls[1].Quota = n }), made(func(m *api.Mesh) { m.Repls[1].Views[1].Rev = n }), made(func(m *api.Mesh) { m.Repls[1].Views[0].R = n }), made(func(m *api.Mesh) { m.Repls[1].Views[1].Epochs[0] = n }), made(func(m *api.Mesh) { m.Repls[1].Held[0].S.L = n }), made(func(m *api.Mesh) { m.Repls[1].Held[0].Item = n }))
	}
	for k := range 3 {
		l = append(l, made(func(m *api.Mesh) { m.Repls[k].Views = nil }), made(func(m *api.Mesh) { m.Repls[k].Views = m.Repls[k].Views[:k] }), made(func(m *api.Mesh) { m.Repls[k].Views = m.Repls[k].Views[1:] }), made(func(m *api.Mesh) { m.Repls[k].Views = slices.Repeat(m.Repls[k].Views, 40) }), made(func(m *api.Mesh) { m.Repls[k].Views = make([]api.View, 500) }),
			made(func(m *api.Mesh) { slices.Reverse(m.Repls[k].Views) }), made(func(m *api.Mesh) { m.Repls[k].Views[k].Epochs = nil }), made(func(m *api.Mesh) { m.Repls[k].Views[k].Epochs = make([]int, 500) }), made(func(m *api.Mesh) { m.Repls[k].Views[k].Seen = make([]api.Head, 500) }),
			made(func(m *api.Mesh) { m.Repls[k].Views[k].Filter = "" }), made(func(m *api.Mesh) { m.Repls[k].Views[k].Filter = strings.Repeat("(", 3000) }), made(func(m *api.Mesh) { m.Repls[k].Held = make([]api.Version, 500) }), made(func(m *api.Mesh) { m.Repls[k].Held = slices.Repeat(m.Repls[k].Held, 40) }), made(func(m *api.Mesh) { slices.Reverse(m.Repls[k].Held) }))
	}
	for i := range 3 {
		own := func(m *api.Mesh) *api.View { return &m.Repls[i].Views[i] }
		for k := range 3 {
			l = append(l, made(func(m *api.Mesh) { own(m).Epochs = own(m).Epochs[:k] }), made(func(m *api.Mesh) { own(m).Epochs = slices.Repeat(own(m).Epochs, k+2) }), made(func(m *api.Mesh) { m.Repls[i].Views = m.Repls[i].Views[:k] }))
		}
		for _, n := range ends() {
			l = append(l, made(func(m *api.Mesh) { own(m).Epochs[i] = n }), made(func(m *api.Mesh) { own(m).Epochs[(i+1)%3] = n }), made(func(m *api.Mesh) { m.Repls[i].ID = n }), made(func(m *api.Mesh) { own(m).Seen[0].Item = n }), made(func(m *api.Mesh) { own(m).Seen[0].S.L = n }), made(func(m *api.Mesh) { m.Issued[i].Item = n }), made(func(m *api.Mesh) { m.Issued[i].S = stampOf(n, n, n) }))
		}
		l = append(l, made(func(m *api.Mesh) { slices.Reverse(own(m).Seen) }), made(func(m *api.Mesh) { own(m).Seen = slices.Repeat(own(m).Seen, 30) }), made(func(m *api.Mesh) { own(m).Seen = append(own(m).Seen, own(m).Seen[0]) }))
	}
	return l
}

// TestOddMeshes: nothing is promised of these, but that each call ends, tells the same each time, and changes nothing that is handed in.
func TestOddMeshes(t *testing.T) {
	t.Parallel()
	for k, m := range odd(t) {
		was := copyOf(m)
		got := told(m)
		if got != told(m) || got != told(copyOf(m)) {
			t.Fatalf("%d: otherwise", k)
		}
		if most := len(m.Repls) * len(goal.Heads(m)); got.missing < 0 || got.missing > most {
			t.Fatalf("%d: %d missing, of %d", k, got.missing, most)
		}
		if !alike(m, was) {
			t.Fatalf("%d: it is changed", k)
		}
	}
}

// TestOddOnesInARound: what is done of odd meshes has answers too.
func TestOddOnesInARound(t *testing.T) {
	t.Parallel()
	for _, m := range odd(t) {
		m = mesh.Round(m)
		if told(m) != told(m) {
			t.Fatalf("otherwise, of\n%+v", m)
		}
	}
}

// TestWordsOfOddMeshes: of heads of any things, with any stamps, the words say what they say of others, as long as each row is by thing.
func TestWordsOfOddMeshes(t *testing.T) {
	items := ends()
	for n := range 1000 {
		c := chance(n)
		var m api.Mesh
		var heads []api.Head
		for _, item := range items {
			if c.below(3) > 0 {
				s := stampOf(c.of(items...), c.of(items...), c.of(items...))
				m.Issued = append([]api.Version{versionOf(item, s, "", "")}, m.Issued...)
				heads = append(heads, api.Head{Item: item, S: s})
			}
		}
		missing := 0
		for i := range 1 + c.below(9) {
			var l []api.Head
			for _, item := range items {
				k := slices.IndexFunc(heads, func(h api.Head) bool { return h.Item == item })
				switch {
				case k < 0 && c.below(2) == 0:
					l = append(l, api.Head{Item: item, S: stampOf(1, 1, 1)})
				case k >= 0 && c.below(2) == 0:
					l = append(l, heads[k])
				case k >= 0:
					missing++
					if s := (api.Stamp{L: 77}); c.below(2) == 0 {
						l = append(l, api.Head{Item: item, S: s})
					}
				}
			}
			views := make([]api.View, i+1)
			views[i].Seen = l
			m.Repls = append(m.Repls, api.Repl{ID: i + 1, Views: views})
		}
		want(t, "any heads", m, 0, missing)
	}
}

// TestTooFewEpochs: of whom one has no number it knows of no setting, and a number of one that is not there is nothing.
func TestTooFewEpochs(t *testing.T) {
	m := numbered(t, [][]int{{5, 2, 2}, {5, 2, 7}, {5, 2, 7}})
	want(t, "as it is", m, 5, 0)
	m.Repls[0].Views[0].Epochs = []int{5, 2}
	want(t, "of two", m, 7, 0)
	m.Repls[0].Views[0].Epochs = []int{5}
	want(t, "of itself", m, 9, 0)
	m.Repls[0].Views[0].Epochs = nil
	want(t, "of none", m, 9, 0)
	m.Repls[0].Views = nil
	want(t, "without views", m, 9, 0)
	m.Repls[1].Views[1].Epochs = []int{0, 2, 7, 99}
	want(t, "of more than there are", m, 9, 0)
	m.Repls[1].Views[1].Epochs[1] = -3
	want(t, "below nought", m, 7, 0)
}

// TestLongLists: each call ends soon, however many were written, are seen, or set filters.
func TestLongLists(t *testing.T) {
	t.Parallel()
	const n = 1 << 17
	var m api.Mesh
	heads, later := make([]api.Head, n), make([]int, n)
	for i := range n {
		item := i*7919%n + 1
		s := stampOf(i+1, 1, 1)
		m.Issued = append(m.Issued, versionOf(item, s, "", ""))
		heads[item-1] = api.Head{Item: item, S: s}
		later[i] = i + 1
	}
	want := func(what string, stale, missing int) {
		t.Helper()
		if got, w := told(m), (all{stale, missing, 31*stale + missing}); got != w {
			t.Errorf("%s: %+v, want %+v", what, got, w)
		}
	}
	m.Repls = []api.Repl{{ID: 1, Views: []api.View{{Seen: heads, Epochs: later}}}}
	want("all is seen", 0, 0)
	m.Repls[0].Views[0].Seen = heads[n/2:]
	want("half is seen", 0, n/2)
	m.Repls = slices.Repeat([]api.Repl{{}}, n)
	want("many that have seen none", 0, n*n)
	views := []api.View{{Seen: heads[n-1:], Epochs: []int{3}}}
	for i := range m.Repls {
		m.Repls[i] = api.Repl{ID: 1, Views: views}
	}
	want("many that have seen the last thing", 0, n*(n-1))
	m.Repls[n-1] = api.Repl{ID: n, Views: make([]api.View, n)}
	m.Repls[n-1].Views[n-1] = api.View{Seen: heads, Epochs: later}
	// The last one knows of 1 of the first one's 3, and each other of none of the last one's.
	want("many that know little", 2+(n-1)*n, (n-1)*(n-1))
	m.Repls[n-1].Views[n-1].Seen = slices.Repeat(heads[:1], n)
	want("one thing over and over", 2+(n-1)*n, (n-1)*(n-1)+n-1)
	slices.Reverse(heads)
	m.Repls[n-1].Views[n-1].Seen = heads
	if got := Missing(m); got < 0 || got > n*n {
		t.Errorf("%d", got)
	}
}
