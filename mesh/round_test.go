package mesh

import (
	"fmt"
	"slices"
	"testing"

	"cardamom/api"
	"cardamom/offer"
	"cardamom/take"
)

// ways is who tells whom in a Round, in order.
func ways(edges [][2]int) [][2]int {
	var l [][2]int
	for _, e := range edges {
		l = append(l, [2]int{e[0], e[1]}, [2]int{e[1], e[0]})
	}
	for i := len(edges) - 1; i >= 0; i-- {
		l = append(l, [2]int{edges[i][0], edges[i][1]}, [2]int{edges[i][1], edges[i][0]})
	}
	return l
}

// afterRound is what a Round leaves, by the promise's words.
func afterRound(t *testing.T, m api.Mesh) api.Mesh {
	t.Helper()
	m = copyOf(m)
	for _, w := range ways(m.Edges) {
		g, ok := offer.To(m.Repls[w[0]-1], w[1], m.Batch)
		r, e := take.From(m.Repls[w[1]-1], g)
		if !ok || e != api.OK {
			t.Fatalf("%v: %v, %d", w, ok, e)
		}
		m.Repls[w[1]-1] = r
	}
	return m
}

func wantRound(t *testing.T, what string, m api.Mesh) api.Mesh {
	t.Helper()
	was := copyOf(m)
	got := Round(m)
	wantMesh(t, what, got, afterRound(t, m))
	wantMesh(t, "ahead of "+what, m, was)
	if !alike(got.Fly, m.Fly) || !alike(got.Issued, m.Issued) || !alike(got.Edges, m.Edges) {
		t.Fatalf("%s: %+v, was %+v", what, got, m)
	}
	return got
}

// TestRounds: of each size, in each way of being beside one another, with each batch, Rounds with writes and filters between them.
func TestRounds(t *testing.T) {
	c := chance(7)
	for size := 1; size <= api.MaxRepl; size++ {
		for k, edges := range shapes(size) {
			for batch := 1; batch <= api.MaxBatch; batch++ {
				m := begun(t, size, edges, batch, c.of(0, 1, 3, 6, 8))
				for n := range 12 {
					for range c.below(6) {
						m, _ = Do(m, c.step(m))
					}
					m = wantRound(t, fmt.Sprintf("size %d, shape %d, batch %d, number %d", size, k, batch, n), m)
				}
			}
		}
	}
}

// TestEachTellsWhatItWasTold: in one Round what is written at one end comes to the other, whichever end it is, and a thing of each besides.
func TestEachTellsWhatItWasTold(t *testing.T) {
	for size := 2; size <= api.MaxRepl; size++ {
		m := begun(t, size, row(size), 4, 8)
		m = Round(does(t, m, put(1, 1, nil, "", ""), put(size, 6, nil, "", "")))
		for _, r := range m.Repls {
			if len(r.Held) != 2 {
				t.Errorf("of %d: %+v", size, r)
			}
		}
	}
}

// TestOrderOfARound: whose view of whom is how old tells who told whom when: three in a row, a batch of one, three things at one end.
func TestOrderOfARound(t *testing.T) {
	for _, from := range []int{1, 3} {
		m := begun(t, 3, row(3), 1, 8)
		m = does(t, m, put(from, 1, nil, "", ""), put(from, 2, nil, "", ""), put(from, 3, nil, "", ""), put(from, 4, nil, "", ""))
		held := func() []int {
			return []int{len(m.Repls[0].Held), len(m.Repls[1].Held), len(m.Repls[2].Held)}
		}
		m = Round(m)
		// 1 tells 2 twice, 2 tells 3 twice: once each on the way there, and on the way back 2 tells 3 ahead of being told by 1. From 3 the way back alone leads to 1, once; on the way there 2 is told once, and again on the way back.
		if want := map[int][]int{1: {4, 2, 1}, 3: {1, 2, 4}}[from]; !slices.Equal(held(), want) {
			t.Errorf("from %d: %v, not %v", from, held(), want)
		}
	}
}

// TestOneAlone: there is none to tell.
func TestOneAlone(t *testing.T) {
	m := does(t, begun(t, 1, nil, 1, 8), put(1, 1, nil, "a", "x"), put(1, 2, nil, "b", "y"), filter(1, "^b"), remove(1, 2))
	wantMesh(t, "a Round of one alone", Round(m), m)
}

// TestRoundsAndWhatIsOnItsWay: a full way is as it was.
func TestRoundsAndWhatIsOnItsWay(t *testing.T) {
	for _, n := range []int{1, 2, 19, 20} {
		m := does(t, laden(t, n), turn(n-1, 1))
		got := wantRound(t, "a Round beside what is on its way", m)
		if len(got.Fly) != n || !got.Fly[n-1].Turned {
			t.Errorf("%+v", got.Fly)
		}
	}
}
