package rank

import (
	"fmt"
	"testing"

	"cardamom/api"
	"cardamom/goal"
	"cardamom/mesh"
)

// TestOfANewOne: the chapter's example, of each size: nothing is written, so nothing is missing, and no filter was set.
func TestOfANewOne(t *testing.T) {
	for size := 1; size <= api.MaxRepl; size++ {
		for _, edges := range shapes(size) {
			m := begun(t, size, edges, 1, 0)
			want(t, fmt.Sprint("a new one of ", size), m, 0, 0)
			want(t, fmt.Sprint("a Round of a new one of ", size), mesh.Round(m), 0, 0)
		}
	}
}

// TestOneAlone: it knows of all that there is, whatever it writes and sets.
func TestOneAlone(t *testing.T) {
	m := begun(t, 1, nil, 1, 8)
	for item := 1; item <= api.MaxItem; item++ {
		m = does(t, m, put(1, item, nil, "ab", ""))
		want(t, "written", m, 0, 0)
		m = does(t, m, put(1, item, nil, "ab", "again"), filter(1, "^a"))
		want(t, "set", m, 0, 0)
		m = does(t, m, remove(1, item))
		want(t, "deleted", m, 0, 0)
	}
	// What it has no room for, or does not want, it still has seen as long as it holds it.
	want(t, "in custody", does(t, m, filter(1, "^b")), 0, 0)
}

// TestSetting: a filter that was set so often is as often not known of by each of the others, till they are told.
func TestSetting(t *testing.T) {
	for size := 1; size <= api.MaxRepl; size++ {
		for r := 1; r <= size; r++ {
			m := begun(t, size, full(size), 1, 8)
			for n := 1; n <= 4; n++ {
				m = does(t, m, filter(r, []string{"^a", "*", "^a", "^a"}[n-1]))
				want(t, fmt.Sprintf("%d of %d, set %d times", r, size, n), m, n*(size-1), 0)
			}
			others := size - 1
			for to := 1; to <= size; to++ {
				if to != r {
					m = does(t, m, tells(r, to))
					want(t, "on its way", m, 4*others, 0)
					m, others = does(t, m, come(0)), others-1
					want(t, "told", m, 4*others, 0)
				}
			}
			m = does(t, m, filter(r, "^b"))
			want(t, "set again", m, size-1, 0)
		}
	}
}

// TestSettingOfSeveral: of each by itself.
func TestSettingOfSeveral(t *testing.T) {
	for size := 2; size <= api.MaxRepl; size++ {
		m := begun(t, size, full(size), 1, 8)
		stale := 0
		for r := 1; r <= size; r++ {
			for range r {
				m = does(t, m, filter(r, "^a"))
			}
			stale += r * (size - 1)
			want(t, fmt.Sprintf("up to %d of %d", r, size), m, stale, 0)
		}
		// The last one tells the first one of its own settings alone, as it knows of no others.
		m = does(t, m, tells(size, 1), come(0))
		want(t, "one is told", m, stale-size, 0)
		m = does(t, m, tells(1, 2), come(0))
		if size == 2 {
			want(t, "both are told", m, 0, 0)
			continue
		}
		want(t, "another one is told of two", m, stale-size-1-size, 0)
		want(t, "all are told", rounds(m, goal.Bound(m)), 0, 0)
	}
}

// numbered is replicas of whom each knows that number of settings of the other: known[i][j]: i's of j's.
func numbered(t *testing.T, known [][]int) api.Mesh {
	t.Helper()
	m := begun(t, len(known), full(len(known)), 1, 8)
	for i, l := range known {
		m.Repls[i].Views[i].Epochs = append([]int(nil), l...)
	}
	return m
}

// evenly is a table of such numbers in which each knows of all settings, n of each.
func evenly(size, n int) [][]int {
	var known [][]int
	for i := range size {
		known = append(known, nil)
		for range size {
			known[i] = append(known[i], n)
		}
	}
	return known
}

// TestStaleOfOnePair: of each two, either way round: by how much the one has less of the other, and nothing if it has as much or more.
func TestStaleOfOnePair(t *testing.T) {
	for size := 2; size <= api.MaxRepl; size++ {
		for i := range size {
			for j := range size {
				if i == j {
					continue
				}
				for _, less := range []int{1, 2, 3, 7, 1000} {
					known := evenly(size, 1000)
					known[i][j] -= less
					what := fmt.Sprintf("%d of %d, of %d", i+1, size, j+1)
					want(t, what+" has less", numbered(t, known), less, 0)
					known[i][j] += 2 * less
					want(t, what+" has more", numbered(t, known), 0, 0)
				}
			}
		}
	}
}

// TestStaleOfItself: what one has of itself is what all others' are held against; more or less of it is nothing of its own.
func TestStaleOfItself(t *testing.T) {
	for size := 1; size <= api.MaxRepl; size++ {
		for i := range size {
			known := evenly(size, 5)
			known[i][i] += 3
			want(t, "more", numbered(t, known), 3*(size-1), 0)
			known[i][i] -= 7
			want(t, "less", numbered(t, known), 0, 0)
		}
	}
}

// TestPairsByThemselves: what one has more than another takes nothing away elsewhere, be it of the same one, or by the same one.
func TestPairsByThemselves(t *testing.T) {
	for size := 3; size <= api.MaxRepl; size++ {
		for i := range size {
			j, k := (i+1)%size, (i+2)%size
			known := evenly(size, 9)
			known[i][j] = 4
			known[k][j] = 19
			known[i][k] = 99
			known[j][i] = 10
			want(t, "one has less", numbered(t, known), 5, 0)
			known[k][i] = 7
			want(t, "another one has less too", numbered(t, known), 7, 0)
			known[j][i] = 0
			known[j][k] = 8
			want(t, "some have less", numbered(t, known), 17, 0)
		}
	}
}

// TestStaleByChance: any numbers, each pair by itself, and all of them together.
func TestStaleByChance(t *testing.T) {
	for n := range 500 {
		c := chance(n)
		size := 1 + n%5
		known := evenly(size, 0)
		for i := range size {
			for j := range size {
				known[i][j] = c.of(0, 1, 2, 3, c.below(40), 1000000)
			}
		}
		stale := 0
		for i := range size {
			for j := range size {
				stale += max(0, known[j][j]-known[i][j])
			}
		}
		m := numbered(t, known)
		want(t, fmt.Sprint(known), m, stale, 0)
		wantStaleAlone(t, m, stale)
	}
}

// wantStaleAlone asks that Stale is that, whatever else there is: what one knows of others' views, what is held or is on its way, and what was written.
func wantStaleAlone(t *testing.T, m api.Mesh, stale int) {
	t.Helper()
	m = copyOf(m)
	for i := range m.Repls {
		r := &m.Repls[i]
		for k := range r.Views {
			if v := &r.Views[k]; k != i {
				*v = api.View{R: k + 1, Rev: 9, Filter: "*", Epochs: []int{7, 8, 9, 10, 11}}
			}
		}
		r.Views[i].Rev, r.Views[i].Filter, r.Quota = 50, "!*", 0
		r.Held = []api.Version{versionOf(1, stampOf(1, 1, 1), "", "")}
	}
	m.Fly, m.Edges, m.Batch = []api.Gram{{From: 1, To: 2, B: "x"}}, nil, 4
	m.Issued = []api.Version{versionOf(1, stampOf(1, 1, 1), "", ""), versionOf(2, stampOf(2, 1, 2), "", "")}
	want(t, "all else is another", m, stale, 2*m.Size)
}

// TestRankOfBoth: of each setting 31, of each that is missing 1.
func TestRankOfBoth(t *testing.T) {
	m := begun(t, 5, full(5), 4, 8)
	for item := 1; item <= api.MaxItem; item++ {
		m = does(t, m, put(3, item, nil, "a", ""))
		want(t, "written", m, 0, 4*item)
	}
	for n := 1; n <= 3; n++ {
		m = does(t, m, filter(2, "^a"))
		if got := Rank(m); got != 4*n*31+24 {
			t.Errorf("set %d times: %d", n, got)
		}
	}
	// All that can be missing, and one that none holds any more, is less than one setting.
	for i := range m.Repls {
		m.Repls[i].Views[i].Seen = nil
		m.Repls[i].Views[i].Epochs[1] = 3
	}
	want(t, "all is missing", m, 0, 30)
	m.Repls[4].Views[4].Epochs[1] = 2
	want(t, "all is missing, and one setting", m, 1, 30)
}

// TestByAndBy: step by step, with each of the three.
func TestByAndBy(t *testing.T) {
	m := begun(t, 3, row(3), 2, 8)
	steps := []struct {
		s              api.Step
		stale, missing int
	}{
		{put(1, 1, nil, "a", "x"), 0, 2},
		{put(1, 2, nil, "b", "y"), 0, 4},
		{tells(1, 2), 0, 4},
		{twice(0), 0, 4},
		{come(0), 0, 2},
		{come(0), 0, 2},
		{filter(2, "^a"), 2, 2},
		{tells(2, 3), 2, 2},
		{turn(0, 5), 2, 2},
		{tells(2, 3), 2, 2},
		{lose(0), 2, 2},
		{come(0), 1, 0},
		{remove(3, 1), 1, 2},
		{tells(3, 2), 1, 2},
		{come(0), 1, 1},
		{filter(3, "!^a"), 3, 1},
		{tells(3, 2), 3, 1},
		{tells(2, 1), 3, 1},
		{come(0), 2, 1},
		{come(0), 1, 0},
		{tells(2, 1), 1, 0},
		{come(0), 0, 0},
	}
	for i, x := range steps {
		m = goesOn(m, x.s)
		want(t, fmt.Sprintf("number %d, %+v", i, x.s), m, x.stale, x.missing)
		wantModel(t, m)
	}
}

// goesOn does a step, whatever it tells.
func goesOn(m api.Mesh, s api.Step) api.Mesh {
	m, _ = mesh.Do(m, s)
	return m
}
