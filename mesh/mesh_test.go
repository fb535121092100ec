package mesh

import (
	"math"
	"slices"
	"testing"

	"cardamom/api"
	"cardamom/gput"
	"cardamom/offer"
	"cardamom/repl"
	"cardamom/take"
	"cardamom/topo"
)

// wantNew asks for what New tells of these, and of the numbers just beside.
func wantNew(t *testing.T, size int, edges [][2]int, batch, quota int) {
	t.Helper()
	want := api.Mesh{Size: size, Batch: batch, Edges: edges}
	for id := 1; id <= size; id++ {
		r, ok := repl.New(id, size, quota)
		if !ok {
			t.Fatalf("repl.New(%d, %d, %d): no", id, size, quota)
		}
		want.Repls = append(want.Repls, r)
	}
	got, ok := New(size, edges, batch, quota)
	if !ok {
		t.Fatalf("New(%d, %v, %d, %d): no", size, edges, batch, quota)
	}
	wantMesh(t, "New", got, want)
	if got.Repls[0].Views[0].Filter != "*" || got.Repls[size-1].ID != size || got.Repls[size-1].Quota != quota || len(got.Fly)+len(got.Issued) != 0 {
		t.Fatalf("New(%d, %v, %d, %d): %+v", size, edges, batch, quota, got)
	}
}

func wantNone(t *testing.T, size int, edges [][2]int, batch, quota int) {
	t.Helper()
	got, ok := New(size, edges, batch, quota)
	if ok || !alike(got, api.Mesh{}) {
		t.Fatalf("New(%d, %v, %d, %d): %+v, %v", size, edges, batch, quota, got, ok)
	}
}

// TestNew: each size, in each way of being beside one another, with each batch and each quota.
func TestNew(t *testing.T) {
	for size := 1; size <= api.MaxRepl; size++ {
		for _, edges := range shapes(size) {
			for batch := 1; batch <= api.MaxBatch; batch++ {
				for quota := 0; quota <= api.MaxQuota; quota++ {
					wantNew(t, size, edges, batch, quota)
				}
			}
		}
	}
}

// TestNewOfNone: each number that is beyond its limits, whatever the others are.
func TestNewOfNone(t *testing.T) {
	for size := 1; size <= api.MaxRepl; size++ {
		edges := row(size)
		for _, other := range append(ends(), 0, size-1, size+1) {
			if other != size {
				wantNone(t, other, edges, 1, 0)
			}
			wantNone(t, notOf(1, 5)[0], edges, other, other)
		}
		for _, batch := range notOf(1, api.MaxBatch) {
			wantNone(t, size, edges, batch, 0)
			wantNone(t, size, edges, batch, api.MaxQuota)
			for _, quota := range notOf(0, api.MaxQuota) {
				wantNone(t, size, edges, batch, quota)
			}
		}
		for _, quota := range notOf(0, api.MaxQuota) {
			wantNone(t, size, edges, 1, quota)
			wantNone(t, size, edges, api.MaxBatch, quota)
		}
	}
	for _, size := range notOf(1, api.MaxRepl) {
		wantNone(t, size, nil, 1, 0)
		wantNone(t, size, row(2), 1, 0)
	}
	wantNone(t, api.MaxRepl+1, row(api.MaxRepl+1), 1, 0)
}

// TestNewOfEdges: edges that may not be, of each kind.
func TestNewOfEdges(t *testing.T) {
	for _, edges := range [][][2]int{
		nil, {}, {{1, 2}}, {{2, 3}}, {{1, 3}, {1, 2}}, {{2, 1}, {2, 3}}, {{1, 2}, {3, 2}}, {{1, 2}, {1, 2}, {2, 3}}, {{1, 1}, {1, 2}, {2, 3}}, {{0, 1}, {1, 2}, {2, 3}}, {{1, 2}, {2, 4}}, {{1, 2}, {2, 3}, {3, 4}},
		{{math.MinInt, 1}, {1, 2}, {2, 3}}, {{1, 2}, {2, 3}, {3, math.MaxInt}}, {{1, 2}, {2, 3}, {math.MinInt, math.MaxInt}}, make([][2]int, 5000), slices.Repeat(row(3), 900),
	} {
		if topo.May(3, edges) {
			t.Errorf("%v may be", edges)
		}
		for _, quota := range []int{-1, 0, 8, 9} {
			wantNone(t, 3, edges, 1, quota)
			wantNone(t, 3, edges, 0, quota)
		}
	}
	wantNew(t, 3, [][2]int{{1, 2}, {1, 3}}, 1, 0)
	wantNew(t, 1, [][2]int{}, 4, 8)
	wantNone(t, 1, [][2]int{{1, 2}}, 4, 8)
	wantNone(t, 1, [][2]int{{1, 1}}, 4, 8)
}

// TestExamples: the chapter's: New, StepPut, StepTell, StepComes.
func TestExamples(t *testing.T) {
	m := begun(t, 2, [][2]int{{1, 2}}, 4, 8)
	m = does(t, m, put(1, 3, []api.Attr{{Key: 1, Val: 5}}, "ab", "body"))
	v := api.Version{Item: 3, S: api.Stamp{L: 1, R: 1, N: 1}, Attrs: []api.Attr{{Key: 1, Val: 5}}, Tag: "ab", Body: "body"}
	if !alike(m.Issued, []api.Version{v}) || !alike(m.Repls[0].Held, m.Issued) || len(m.Repls[1].Held) != 0 {
		t.Fatalf("%+v", m)
	}
	m = does(t, m, tells(1, 2))
	if len(m.Fly) != 1 || m.Fly[0].From != 1 || m.Fly[0].To != 2 || m.Fly[0].Turned || len(m.Repls[1].Held) != 0 {
		t.Fatalf("%+v", m)
	}
	m = does(t, m, come(0))
	if len(m.Fly) != 0 || !alike(m.Repls[1].Held, []api.Version{v}) || m.Repls[1].L != 1 || !alike(m.Repls[1].Views[0], m.Repls[0].Views[0]) {
		t.Fatalf("%+v", m)
	}
}

// with is m with r as that replica, which is behind the others' writes and these.
func with(m api.Mesh, n int, r api.Repl, l ...api.Version) api.Mesh {
	m = copyOf(m)
	m.Repls[n-1] = r
	m.Issued = append(m.Issued, l...)
	return m
}

// TestWrites: a write is as repl has it: that replica is as it tells, what is written is the last of Issued, and all else is as it was.
func TestWrites(t *testing.T) {
	for _, m := range []api.Mesh{begun(t, 3, row(3), 2, 3), busy(t)} {
		for n := 1; n <= 3; n++ {
			for item := 1; item <= api.MaxItem; item++ {
				for _, s := range []api.Step{put(n, item, nil, "", ""), put(n, item, []api.Attr{{Key: 3, Val: 99}}, "abx", "what it is"), put(n, item, []api.Attr{{Key: 0, Val: 0}, {Key: 1, Val: 3}, {Key: 2, Val: 1}}, "zzzzzz", "\xff\x00bytes..")} {
					r, v, e := repl.Put(m.Repls[n-1], item, s.Attrs, s.Tag, s.Text)
					if e != api.OK {
						wantLeft(t, m, s, e)
						continue
					}
					if v.Body != s.Text || v.Tag != s.Tag || !alike(v.Attrs, s.Attrs) || v.Item != item || v.S.R != n {
						t.Fatalf("%+v, written as %+v", s, v)
					}
					wantDo(t, m, s, with(m, n, r, v), api.OK)
					// What a step has beyond what its Kind asks for says nothing.
					s.To, s.I = 3-n, 19
					wantDo(t, m, s, with(m, n, r, v), api.OK)
				}
			}
		}
	}
}

// TestDeletions: as repl has them.
func TestDeletions(t *testing.T) {
	gone, none := 0, 0
	for _, m := range []api.Mesh{begun(t, 3, row(3), 2, 3), busy(t)} {
		for n := 1; n <= 3; n++ {
			for item := 1; item <= api.MaxItem; item++ {
				r, v, e := repl.Delete(m.Repls[n-1], item)
				s := api.Step{Kind: api.StepDelete, R: n, Item: item, To: 9, I: -3, Attrs: []api.Attr{{Key: 3, Val: 3}}, Tag: "other", Text: "other"}
				if e != api.OK {
					none++
					wantLeft(t, m, remove(n, item), api.ENone)
					wantLeft(t, m, s, api.ENone)
					continue
				}
				gone++
				if !v.Dead || v.Item != item {
					t.Fatalf("%+v", v)
				}
				wantDo(t, m, remove(n, item), with(m, n, r, v), api.OK)
				wantDo(t, m, s, with(m, n, r, v), api.OK)
				wantLeft(t, does(t, m, s), s, api.ENone)
			}
		}
	}
	if gone < 4 || none < 20 {
		t.Errorf("%d gone, %d none", gone, none)
	}
}

// TestFilters: as repl has them; nothing is Issued.
func TestFilters(t *testing.T) {
	set, not := 0, 0
	for _, m := range []api.Mesh{begun(t, 3, row(3), 2, 3), busy(t)} {
		for n := 1; n <= 3; n++ {
			for _, text := range []string{"*", "^a", "!*", "@1:2-9&!^b", "((*))"} {
				r, e := repl.SetFilter(m.Repls[n-1], text)
				if e != api.OK {
					not++
					wantLeft(t, m, filter(n, text), e)
					continue
				}
				set++
				if own := repl.Own(r); own.Filter != text {
					t.Fatalf("%+v", own)
				}
				wantDo(t, m, filter(n, text), with(m, n, r), api.OK)
				wantDo(t, m, api.Step{Kind: api.StepFilter, R: n, Text: text, To: 9, I: -3, Item: 1, Tag: "^b"}, with(m, n, r), api.OK)
			}
		}
	}
	if set < 20 || not != 0 {
		t.Errorf("%d set, %d not", set, not)
	}
}

// TestTells: only one that is beside is told, either way round, with just those bytes; they are the last on its way.
func TestTells(t *testing.T) {
	for size := 1; size <= api.MaxRepl; size++ {
		for k, edges := range shapes(size) {
			m := begun(t, size, edges, 1+(size+k)%api.MaxBatch, 8)
			for item := 1; item <= api.MaxItem; item++ {
				m = does(t, m, put(1+item%size, item, nil, "abcdef", "some text"), put(1, item, nil, "", ""))
			}
			wantTells(t, m)
			if size > 1 {
				e := edges[len(edges)-1]
				wantTells(t, does(t, m, tells(e[0], e[1]), tells(e[1], e[0]), come(0), come(0), tells(e[1], e[0])))
			}
		}
	}
}

// wantTells asks for the step of each to each, and to and from those just beside, and far off.
func wantTells(t *testing.T, m api.Mesh) {
	t.Helper()
	numbers := []int{-1, 0, 1, 2, 3, 4, 5, m.Size + 1}
	if m.Batch == 1 {
		numbers = append(numbers, math.MinInt, math.MaxInt)
	}
	for _, from := range numbers {
		for _, to := range numbers {
			if !topo.Beside(m.Edges, from, to) {
				wantLeft(t, m, tells(from, to), api.EArg)
				continue
			}
			g, ok := offer.To(m.Repls[from-1], to, m.Batch)
			b, ok1 := gput.Put(g, m.Size)
			if !ok || !ok1 || len(g.Batch) > m.Batch {
				t.Fatalf("%d tells %d: %+v, %v, %v", from, to, g, ok, ok1)
			}
			want := copyOf(m)
			want.Fly = append(want.Fly, api.Gram{From: from, To: to, B: string(b)})
			wantDo(t, m, tells(from, to), want, api.OK)
			wantDo(t, m, api.Step{Kind: api.StepTell, R: from, To: to, I: -1, Item: 9, Tag: "?", Text: "@"}, want, api.OK)
		}
	}
}

// TestComes: what comes is on its way no more, and the one that it is for is as take.From tells; all others are as they were.
func TestComes(t *testing.T) {
	m := busy(t)
	if len(m.Fly) != 4 || !m.Fly[1].Turned {
		t.Fatalf("%+v", m.Fly)
	}
	for i, gram := range m.Fly {
		want := copyOf(m)
		want.Fly = slices.Delete(want.Fly, i, i+1)
		e := api.EForm
		if !gram.Turned {
			g, ok := gput.Take([]byte(gram.B), 3)
			if !ok || g.To != gram.To || g.From != gram.From {
				t.Fatalf("%d: %+v, %v", i, g, ok)
			}
			want.Repls[g.To-1], e = take.From(m.Repls[g.To-1], g)
			if repl.Same(want.Repls[g.To-1], m.Repls[g.To-1]) {
				t.Fatalf("%d: it tells nothing", i)
			}
		}
		wantDo(t, m, come(i), want, e)
		wantDo(t, m, api.Step{Kind: api.StepComes, I: i, R: 3 - gram.To, To: 3 - gram.To, Item: 1, Text: "x"}, want, e)
	}
	wantLeft(t, m, come(4), api.ENone)
}

// TestOnWay: lost, twice and turned are as net has them.
func TestOnWay(t *testing.T) {
	m := busy(t)
	for i, gram := range m.Fly {
		want := copyOf(m)
		want.Fly = slices.Delete(want.Fly, i, i+1)
		wantDo(t, m, lose(i), want, api.OK)
		wantDo(t, m, api.Step{Kind: api.StepLost, I: i, R: 9, To: 9, Item: 9}, want, api.OK)
		want = copyOf(m)
		want.Fly = append(want.Fly, gram)
		wantDo(t, m, twice(i), want, api.OK)
		wantDo(t, m, api.Step{Kind: api.StepTwice, I: i, R: 9, To: 9, Item: 9}, want, api.OK)
		for _, to := range []int{1, 255, 256 + 128, 3*256 + 7, 700*256 + 1} {
			if gram.Turned {
				wantLeft(t, m, turn(i, to), api.ENone)
				continue
			}
			want = copyOf(m)
			b := []byte(gram.B)
			b[to/256%len(b)] ^= byte(to % 256)
			want.Fly[i].B, want.Fly[i].Turned = string(b), true
			wantDo(t, m, turn(i, to), want, api.OK)
			wantDo(t, m, api.Step{Kind: api.StepTurned, I: i, To: to, R: 9, Item: 9}, want, api.OK)
		}
		for _, to := range []int{0, 256, 5 * 256, -1, -256, math.MinInt} {
			e := api.OK
			if gram.Turned {
				e = api.ENone
			}
			wantLeft(t, m, turn(i, to), e)
		}
	}
}

// TestAsOneGoesOn: one thing written, told on in a row of five, over-written and deleted, by hand.
func TestAsOneGoesOn(t *testing.T) {
	m := begun(t, 5, row(5), 1, 8)
	m = does(t, m, put(1, 2, nil, "a", "old"))
	for to := 2; to <= 5; to++ {
		m = does(t, m, tells(to-1, to), come(0))
	}
	m = does(t, m, put(5, 2, nil, "a", "new"), remove(3, 2))
	if got := []api.Stamp{m.Issued[0].S, m.Issued[1].S, m.Issued[2].S}; !slices.Equal(got, []api.Stamp{{L: 1, R: 1, N: 1}, {L: 2, R: 5, N: 1}, {L: 2, R: 3, N: 1}}) || !m.Issued[2].Dead || m.Issued[2].Body != "" {
		t.Fatalf("%+v", m.Issued)
	}
	m = does(t, m, tells(3, 4), tells(5, 4), come(0), come(0))
	if len(m.Issued) != 3 || !alike(m.Repls[3].Held, m.Issued[1:2]) || !alike(m.Repls[2].Held, m.Issued[2:]) || !alike(m.Repls[0].Held, m.Issued[:1]) {
		t.Fatalf("%+v", m)
	}
}
