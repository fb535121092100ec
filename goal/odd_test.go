package goal

import (
	"math"
	"slices"
	"strings"
	"testing"

	"cardamom/api"
	"cardamom/mesh"
)

// odd is meshes that no call tells.
func odd(t *testing.T) []api.Mesh {
	t.Helper()
	base := busy(t)
	made := func(do func(m *api.Mesh)) api.Mesh {
		m := copyOf(base)
		do(&m)
		return m
	}
	l := []api.Mesh{
		{}, {Size: 3}, {Size: 3, Batch: 1, Edges: row(3)}, {Edges: full(5), Repls: make([]api.Repl, 5)}, {Size: 2, Batch: 1, Edges: row(2), Repls: make([]api.Repl, 2), Fly: make([]api.Gram, 2)},
		{Size: math.MinInt, Batch: math.MinInt, Edges: [][2]int{{math.MinInt, math.MaxInt}}}, {Size: math.MaxInt, Batch: math.MaxInt, Edges: [][2]int{{math.MaxInt, math.MaxInt}}, Repls: base.Repls, Fly: base.Fly},
		made(func(m *api.Mesh) { m.Repls = m.Repls[:2] }), made(func(m *api.Mesh) { m.Repls = m.Repls[:1] }), made(func(m *api.Mesh) { m.Repls = m.Repls[1:] }), made(func(m *api.Mesh) { m.Repls = slices.Repeat(m.Repls, 3) }), made(func(m *api.Mesh) { m.Repls = nil }), made(func(m *api.Mesh) { m.Repls = make([]api.Repl, 300) }),
		made(func(m *api.Mesh) { slices.Reverse(m.Repls) }), made(func(m *api.Mesh) { m.Repls[0] = m.Repls[1] }), made(func(m *api.Mesh) { m.Repls[1] = api.Repl{} }),
		made(func(m *api.Mesh) { m.Fly = slices.Repeat(m.Fly, 9) }), made(func(m *api.Mesh) { m.Fly = make([]api.Gram, 500) }), made(func(m *api.Mesh) { m.Fly[0].B = strings.Repeat("\xff", 5000) }), made(func(m *api.Mesh) { m.Fly[0] = api.Gram{From: math.MinInt, To: math.MaxInt, B: "\x00"} }),
		made(func(m *api.Mesh) { m.Issued = make([]api.Version, 500) }), made(func(m *api.Mesh) { m.Issued = slices.Repeat(m.Issued, 99) }), made(func(m *api.Mesh) { m.Issued[0] = api.Version{Item: math.MinInt, Tag: strings.Repeat("\xff", 5000)} }), made(func(m *api.Mesh) { m.Issued = nil }),
		made(func(m *api.Mesh) { m.Edges = nil }), made(func(m *api.Mesh) { m.Edges = slices.Repeat(m.Edges, 50) }), made(func(m *api.Mesh) { slices.Reverse(m.Edges) }), made(func(m *api.Mesh) { m.Edges = make([][2]int, 3000) }),
	}
	for _, e := range [][2]int{{0, 1}, {1, 0}, {1, 1}, {2, 2}, {2, 1}, {3, 4}, {4, 3}, {1, 9}, {9, 9}, {-1, 1}, {1, -1}, {math.MinInt, 1}, {1, math.MaxInt}, {math.MaxInt, math.MinInt}} {
		l = append(l, made(func(m *api.Mesh) { m.Edges = append(m.Edges, e) }), made(func(m *api.Mesh) { m.Edges = [][2]int{e} }))
	}
	for _, n := range []int{math.MinInt, -1, 0, 1, 2, 4, 5, 6, math.MaxInt} {
		l = append(l, made(func(m *api.Mesh) { m.Size = n }), made(func(m *api.Mesh) { m.Batch = n }), made(func(m *api.Mesh) { m.Repls[0].ID = n }), made(func(m *api.Mesh) { m.Repls[1].ID = n }), made(func(m *api.Mesh) { m.Repls[1].Size = n }), made(func(m *api.Mesh) { m.Repls[1].L = n }), made(func(m *api.Mesh) { m.Repls[1].N = n }), made(func(m *api.Mesh) { m.Repls[1].Quota = n }), made(func(m *api.Mesh) { m.Repls[1].Views[1].Rev = n }), made(func(m *api.Mesh) { m.Repls[1].Views[0].R = n }), made(func(m *api.Mesh) { m.Repls[1].Views[1].Epochs[0] = n }), made(func(m *api.Mesh) { m.Repls[1].Held[0].S.L = n }), made(func(m *api.Mesh) { m.Repls[1].Held[0].Item = n }))
	}
	for k := range 3 {
		l = append(l, made(func(m *api.Mesh) { m.Repls[k].Views = nil }), made(func(m *api.Mesh) { m.Repls[k].Views = m.Repls[k].Views[:k] }), made(func(m *api.Mesh) { m.Repls[k].Views = m.Repls[k].Views[1:] }), made(func(m *api.Mesh) { m.Repls[k].Views = slices.Repeat(m.Repls[k].Views, 40) }), made(func(m *api.Mesh) { m.Repls[k].Views = make([]api.View, 500) }),
			made(func(m *api.Mesh) { slices.Reverse(m.Repls[k].Views) }), made(func(m *api.Mesh) { m.Repls[k].Views[k].Epochs = nil }), made(func(m *api.Mesh) { m.Repls[k].Views[k].Epochs = make([]int, 500) }), made(func(m *api.Mesh) { m.Repls[k].Views[k].Seen = make([]api.Head, 500) }),
			made(func(m *api.Mesh) { m.Repls[k].Views[k].Filter = "" }), made(func(m *api.Mesh) { m.Repls[k].Views[k].Filter = strings.Repeat("(", 3000) }), made(func(m *api.Mesh) { m.Repls[k].Held = make([]api.Version, 500) }), made(func(m *api.Mesh) { m.Repls[k].Held = slices.Repeat(m.Repls[k].Held, 40) }), made(func(m *api.Mesh) { slices.Reverse(m.Repls[k].Held) }))
	}
	return l
}

// TestOddMeshes: nothing is promised of these, but that each call ends, tells the same each time, changes nothing that is handed in, and keeps none of it.
func TestOddMeshes(t *testing.T) {
	t.Parallel()
	for k, m := range odd(t) {
		was := copyOf(m)
		got := told(m)
		if !same(got, told(m)) || !same(got, told(copyOf(m))) {
			t.Fatalf("%d: otherwise", k)
		}
		for _, r := range ends() {
			l, s := Target(m, r), Store(m, r)
			if (r < 1 || r > len(m.Repls)) && len(l)+len(s) > 0 {
				t.Fatalf("%d: of %d, of which there are %d: %v, %v", k, r, len(m.Repls), l, s)
			}
		}
		wantOwn(t, m, got)
		if !alike(m, was) {
			t.Fatalf("%d: it is changed", k)
		}
	}
}

// TestOddOnesInARound: what is done of odd meshes has answers too.
func TestOddOnesInARound(t *testing.T) {
	t.Parallel()
	for _, m := range odd(t) {
		m = mesh.Round(m)
		if !same(told(m), told(m)) {
			t.Fatalf("otherwise, of\n%+v", m)
		}
	}
}

// TestWordsOfOddMeshes: of versions of any things, with any stamps, in any order, the words say what they say of others.
func TestWordsOfOddMeshes(t *testing.T) {
	c := chance(11)
	for range 300 {
		var m api.Mesh
		for range c.below(12) {
			v := versionOf(c.of(1, 2, 3, 4, 5, 6), stampOf(c.of(ends()...), c.of(ends()...), c.of(ends()...)), "", "")
			m.Issued = append(m.Issued, v)
		}
		l := modelLast(m)
		var heads []api.Head
		for _, v := range l {
			heads = append(heads, api.Head{Item: v.Item, S: v.S})
		}
		wantHeads(t, "of any stamps", Heads(m), heads...)
		if Kept(m) != (len(l) == 0) || !Done(m) {
			t.Fatalf("none holds any of it: %v, %v", Kept(m), Done(m))
		}
		m.Repls = []api.Repl{{ID: 1, Held: l, Views: []api.View{{Filter: "*", Seen: heads}}}}
		wantVersions(t, "of any stamps", Target(m, 1), l...)
		wantVersions(t, "of any stamps", Store(m, 1), l...)
		if !Kept(m) || !Done(m) || Bound(m) != 4*len(l) {
			t.Fatalf("one holds all of it: %v, %v, %d", Kept(m), Done(m), Bound(m))
		}
	}
	var m api.Mesh
	items := slices.DeleteFunc(ends(), func(n int) bool { return n == 0 })
	for _, n := range items {
		m.Issued = append([]api.Version{versionOf(n, stampOf(1, 1, 1), "", ""), versionOf(n, stampOf(2, 1, 1), "", "")}, m.Issued...)
	}
	for i, h := range Heads(m) {
		if h != (api.Head{Item: items[i], S: stampOf(2, 1, 1)}) {
			t.Errorf("%d: %+v", i, h)
		}
	}
	if len(Heads(m)) != len(items) {
		t.Errorf("%+v", Heads(m))
	}
}

// TestLongLists: each call ends soon, however many were written, are held, or hold them.
func TestLongLists(t *testing.T) {
	t.Parallel()
	const n = 1 << 17
	long := make([]api.Version, n)
	heads := make([]api.Head, n)
	for i := range long {
		// By thing once it is in order; here it is not, and each thing is there once.
		item := i*7919%n + 1
		long[i] = versionOf(item, stampOf(i+1, 1, 1), "a", "x")
		heads[item-1] = api.Head{Item: item, S: long[i].S}
	}
	sorted := slices.Clone(long)
	slices.SortFunc(sorted, func(a, b api.Version) int { return a.Item - b.Item })
	m := api.Mesh{Size: 1, Issued: long, Repls: []api.Repl{{ID: 1, Held: sorted, Views: []api.View{{Filter: "^a", Seen: heads}}}}}
	want := func(what string, done bool) {
		t.Helper()
		if !slices.Equal(Heads(m), heads) || !Kept(m) || Done(m) != done || Bound(m) != 6*m.Size+4*n {
			t.Errorf("%s: %v, %v, %d", what, Kept(m), Done(m), Bound(m))
		}
	}
	want("all of it in store", true)
	if len(Target(m, 1)) != n || len(Store(m, 1)) != n {
		t.Error("in store")
	}
	m.Repls[0].Views[0].Filter = "^b"
	want("all of it in custody", true)
	if len(Target(m, 1)) != 0 || len(Store(m, 1)) != 0 {
		t.Error("in custody")
	}
	m.Repls = append(m.Repls, make([]api.Repl, n)...)
	want("of many", false)
	m.Repls[0].Views[0].Filter = strings.Repeat("(", n)
	want("of a long text", false)
	m = api.Mesh{Size: math.MaxInt, Issued: slices.Repeat(long[:1], n), Repls: []api.Repl{{ID: 1, Held: slices.Repeat(long[:1], n)}}}
	if len(Heads(m)) != 1 || !Kept(m) || Done(m) {
		t.Errorf("one thing very often: %v, %v, %v", Heads(m), Kept(m), Done(m))
	}
	_ = Bound(m)
	m.Repls = slices.Repeat([]api.Repl{{ID: 1, Views: []api.View{{Filter: "^b", Seen: Heads(m)}}}}, n)
	m.Repls[n-1].Held = slices.Repeat(long[:1], n)
	if !Kept(m) || !Done(m) {
		t.Errorf("very many, of which one holds one thing very often: %v, %v", Kept(m), Done(m))
	}
}
