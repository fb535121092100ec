package mesh

import (
	"fmt"
	"math"
	"slices"
	"strings"
	"testing"

	"cardamom/api"
	"cardamom/gput"
)

// odd is meshes that no call tells.
func odd(t *testing.T) []api.Mesh {
	t.Helper()
	base := busy(t)
	made := func(do func(m *api.Mesh)) api.Mesh {
		m := copyOf(base)
		do(&m)
		return m
	}
	l := []api.Mesh{
		{}, {Size: 3}, {Size: 3, Batch: 1, Edges: row(3)}, {Edges: full(5), Repls: make([]api.Repl, 5)}, {Size: 2, Batch: 1, Edges: row(2), Repls: make([]api.Repl, 2), Fly: make([]api.Gram, 2)},
		{Size: math.MinInt, Batch: math.MinInt, Edges: [][2]int{{math.MinInt, math.MaxInt}}}, {Size: math.MaxInt, Batch: math.MaxInt, Edges: [][2]int{{math.MaxInt, math.MaxInt}}, Repls: base.Repls, Fly: base.Fly},
		made(func(m *api.Mesh) { m.Repls = m.Repls[:2] }), made(func(m *api.Mesh) { m.Repls = m.Repls[:1] }), made(func(m *api.Mesh) { m.Repls = m.Repls[1:] }), made(func(m *api.Mesh) { m.Repls = slices.Repeat(m.Repls, 3) }), made(func(m *api.Mesh) { m.Repls = nil }), made(func(m *api.Mesh) { m.Repls = make([]api.Repl, 300) }),
		made(func(m *api.Mesh) { slices.Reverse(m.Repls) }), made(func(m *api.Mesh) { m.Repls[0] = m.Repls[1] }), made(func(m *api.Mesh) { m.Repls[1] = api.Repl{} }),
		made(func(m *api.Mesh) { m.Fly = slices.Repeat(m.Fly, 9) }), made(func(m *api.Mesh) { m.Fly = make([]api.Gram, 500) }), made(func(m *api.Mesh) { m.Fly[0].B = strings.Repeat("\xff", 5000) }), made(func(m *api.Mesh) { m.Fly[0] = api.Gram{From: math.MinInt, To: math.MaxInt, B: "\x00"} }),
		made(func(m *api.Mesh) { m.Issued = make([]api.Version, 500) }), made(func(m *api.Mesh) { m.Issued = slices.Repeat(m.Issued, 99) }), made(func(m *api.Mesh) { m.Issued[0] = api.Version{Item: math.MinInt, Tag: strings.Repeat("\xff", 5000)} }), made(func(m *api.Mesh) { m.Issued = nil }),
		made(func(m *api.Mesh) { m.Edges = nil }), made(func(m *api.Mesh) { m.Edges = slices.Repeat(m.Edges, 50) }), made(func(m *api.Mesh) { slices.Reverse(m.Edges) }), made(func(m *api.Mesh) { m.Edges = make([][2]int, 3000) }),
	}
	for _, e := range [][2]int{{0, 1}, {1, 0}, {1, 1}, {2, 2}, {2, 1}, {3, 4}, {4, 3}, {1, 9}, {9, 9}, {-1, 1}, {1, -1}, {math.MinInt, 1}, {1, math.MaxInt}, {math.MaxInt, math.MinInt}} {
		l = append(l, made(func(m *api.Mesh) { m.Edges = append(m.Edges, e) }), made(func(m *api.Mesh) { m.Edges = [][2]int{e} }))
	}
	for _, n := range []int{math.MinInt, -1, 0, 1, 2, 4, 5, 6, math.MaxInt} {
		l = append(l, made(func(m *api.Mesh) { m.Size = n }), made(func(m *api.Mesh) { m.Batch = n }), made(func(m *api.Mesh) { m.Repls[0].ID = n }), made(func(m *api.Mesh) { m.Repls[1].ID = n }), made(func(m *api.Mesh) { m.Repls[1].Size = n }), made(func(m *api.Mesh) { m.Repls[1].L = n }), made(func(m *api.Mesh) { m.Repls[1].N = n }), made(func(m *api.Mesh) { m.Repls[1].Quota = n }), made(func(m *api.Mesh) { m.Repls[1].Views[1].Rev = n }), made(func(m *api.Mesh) { m.Repls[1].Views[0].R = n }), made(func(m *api.Mesh) { m.Repls[1].Views[1].Epochs[0] = n }), made(func(m *api.Mesh) { m.Repls[1].Held[0].S.L = n }), made(func(m *api.Mesh) { m.Repls[1].Held[0].Item = n }))
	}
	for k := range 3 {
		l = append(l, made(func(m *api.Mesh) { m.Repls[k].Views = nil }), made(func(m *api.Mesh) { m.Repls[k].Views = m.Repls[k].Views[:k] }), made(func(m *api.Mesh) { m.Repls[k].Views = m.Repls[k].Views[1:] }), made(func(m *api.Mesh) { m.Repls[k].Views = slices.Repeat(m.Repls[k].Views, 40) }), made(func(m *api.Mesh) { m.Repls[k].Views = make([]api.View, 500) }),
			made(func(m *api.Mesh) { slices.Reverse(m.Repls[k].Views) }), made(func(m *api.Mesh) { m.Repls[k].Views[k].Epochs = nil }), made(func(m *api.Mesh) { m.Repls[k].Views[k].Epochs = make([]int, 500) }), made(func(m *api.Mesh) { m.Repls[k].Views[k].Seen = make([]api.Head, 500) }),
			made(func(m *api.Mesh) { m.Repls[k].Views[k].Filter = "" }), made(func(m *api.Mesh) { m.Repls[k].Views[k].Filter = strings.Repeat("(", 3000) }), made(func(m *api.Mesh) { m.Repls[k].Held = make([]api.Version, 500) }), made(func(m *api.Mesh) { m.Repls[k].Held = slices.Repeat(m.Repls[k].Held, 40) }), made(func(m *api.Mesh) { slices.Reverse(m.Repls[k].Held) }))
	}
	return l
}

// oddSteps is steps with numbers at either end, and long lists and texts.
func oddSteps() []api.Step {
	long := strings.Repeat("a", 4000)
	l := everyStep()
	for kind := 0; kind <= 9; kind++ {
		for _, n := range []int{math.MinInt, -1, 0, 1, 2, 4, math.MaxInt} {
			l = append(l, api.Step{Kind: kind, R: n, To: n, I: n, Item: n}, api.Step{Kind: kind, R: 1, To: n, I: n, Item: n}, api.Step{Kind: kind, R: n, To: 2, I: 1, Item: 1}, api.Step{Kind: kind, R: 2, To: 1, I: n, Item: 1}, api.Step{Kind: kind, R: 2, To: n, I: 0, Item: 2, Tag: "a"})
		}
		l = append(l, api.Step{Kind: kind, R: 1, To: 2, I: 1, Item: 1, Attrs: make([]api.Attr, 500), Tag: long, Text: long}, api.Step{Kind: kind, R: 2, Item: 1, Text: strings.Repeat("(", 4000)}, api.Step{Kind: kind, R: 3, Item: 1, Tag: "\xff", Text: "\xff"})
	}
	return l
}

// TestOddMeshes: nothing is promised of these, but that each call ends, changes nothing that is handed in, and tells the same each time.
func TestOddMeshes(t *testing.T) {
	t.Parallel()
	for k, m := range odd(t) {
		was := copyOf(m)
		for _, s := range oddSteps() {
			got, e := Do(m, s)
			again, e1 := Do(m, s)
			if e != e1 || !Same(got, again) || e < api.OK || e > api.ELost {
				t.Fatalf("%d, %+v: %d, and then %d", k, s, e, e1)
			}
			if e != api.OK && s.Kind != api.StepComes && !Same(got, m) {
				t.Fatalf("%d, %+v: refused, and yet %+v", k, s, got)
			}
			if s.Kind == api.StepComes && e != api.ENone && len(got.Fly) != len(m.Fly)-1 {
				t.Fatalf("%d, %+v: %d, and %d are on their way, of %d", k, s, e, len(got.Fly), len(m.Fly))
			}
		}
		if !Same(Round(m), Round(m)) || !Same(m, copyOf(m)) {
			t.Fatalf("%d: a Round", k)
		}
		wantMesh(t, fmt.Sprint(k), m, was)
	}
}

// TestOddSteps: steps that say what may not be, to a mesh that may be: each is refused, or does what the promise's words say.
func TestOddSteps(t *testing.T) {
	for _, m := range []api.Mesh{busy(t), laden(t, 4), laden(t, 20), begun(t, 1, nil, 1, 0), begun(t, 5, full(5), 4, 8)} {
		for _, s := range oddSteps() {
			want, e := after(m, s)
			wantDo(t, m, s, want, e)
		}
	}
}

// TestOddPairs: two meshes, whatever they are, are the same only if they are alike.
func TestOddPairs(t *testing.T) {
	l := odd(t)
	for i, a := range l {
		for _, b := range l[:i+1] {
			if got := Same(a, b); got != Same(b, a) || got && !alike(a, b) {
				t.Errorf("%+v\nand %+v: %v", a, b, got)
			}
		}
	}
}

// TestRoundOfSome: edges to nobody tell nothing; the others do.
func TestRoundOfSome(t *testing.T) {
	m := busy(t)
	want := copyOf(Round(m))
	for _, e := range [][2]int{{0, 1}, {1, 1}, {3, 4}, {-1, 9}, {2, math.MaxInt}} {
		for at := range 3 {
			more := copyOf(m)
			more.Edges = slices.Insert(more.Edges, at, e)
			want.Edges = more.Edges
			wantMesh(t, fmt.Sprintf("%v at %d", e, at), Round(more), want)
			if got, err := Do(more, tells(e[0], e[1])); err != api.EArg || !Same(got, more) {
				t.Errorf("%v is told: %d", e, err)
			}
		}
	}
}

// TestTooOftenSet: a view that is beyond its limits is told to none: it may not be.
func TestTooOftenSet(t *testing.T) {
	m := busy(t)
	m.Repls[0].Views[0].Rev = 1000001
	wantLeft(t, m, tells(1, 2), api.EArg)
	if got := Round(m); !alike(got.Repls[1].Views[0], m.Repls[1].Views[0]) || !alike(got.Repls[0].Views[1], got.Repls[1].Views[1]) {
		t.Errorf("%+v", got)
	}
	m.Repls[0].Views[0].Rev = 1000000
	if g, ok := gput.Take([]byte(does(t, m, lose(0), tells(1, 2)).Fly[3].B), 3); !ok || g.Views[0].Rev != 1000000 {
		t.Errorf("%+v, %v", g, ok)
	}
}
