package rank

import (
	"fmt"
	"slices"
	"testing"

	"cardamom/api"
	"cardamom/goal"
)

// TestMissingOfEachThing: one thing, whichever it is, is missing at each but the one that wrote it, till they are told.
func TestMissingOfEachThing(t *testing.T) {
	for size := 1; size <= api.MaxRepl; size++ {
		for item := 1; item <= api.MaxItem; item++ {
			for r := 1; r <= size; r++ {
				m := does(t, begun(t, size, full(size), 1, 8), put(r, item, nil, "", ""))
				what := fmt.Sprintf("%d at %d of %d", item, r, size)
				want(t, what, m, 0, size-1)
				lacking := size - 1
				for to := size; to >= 1; to-- {
					if to != r {
						m = does(t, m, tells(r, to))
						want(t, what+", on its way", m, 0, lacking)
						m, lacking = does(t, m, come(0)), lacking-1
						want(t, what+", told", m, 0, lacking)
					}
				}
				m = does(t, m, put(r, item, nil, "", "again"))
				want(t, what+", again", m, 0, size-1)
				m = does(t, m, remove(r, item))
				want(t, what+", deleted", m, 0, size-1)
			}
		}
	}
}

// TestMissingOfSeveralThings: of each thing, and of each replica, by itself, in whatever order they are written.
func TestMissingOfSeveralThings(t *testing.T) {
	for _, order := range [][]int{{1, 2, 3, 4, 5, 6}, {6, 5, 4, 3, 2, 1}, {3, 1, 6, 2, 5, 4}, {2, 4, 6, 1, 3, 5}} {
		for size := 1; size <= api.MaxRepl; size++ {
			m := begun(t, size, full(size), 1, 8)
			for k, item := range order {
				m = does(t, m, put(1+k%size, item, nil, "", ""))
				want(t, fmt.Sprint(order[:k+1], " of ", size), m, 0, (size-1)*(k+1))
			}
			want(t, "all are told", rounds(m, goal.Bound(m)), 0, 0)
		}
	}
}

// TestMissingOfTwoWriters: of what two wrote that did not know of one another the later stamp is the last one, whichever was written first.
func TestMissingOfTwoWriters(t *testing.T) {
	for _, order := range [][]int{{1, 3}, {3, 1}} {
		m := begun(t, 3, row(3), 4, 8)
		for _, r := range order {
			m = does(t, m, put(r, 4, nil, "", fmt.Sprint(r)))
		}
		// 3's is the last, as it has the greater number at the same time.
		want(t, fmt.Sprint(order), m, 0, 2)
		told := does(t, m, tells(1, 2), come(0))
		want(t, "told of the earlier one", told, 0, 2)
		told = does(t, told, tells(3, 2), come(0))
		want(t, "told of the later one", told, 0, 1)
		told = does(t, told, tells(2, 1), come(0))
		want(t, "all are told", told, 0, 0)
		told = does(t, m, tells(3, 2), come(0), tells(1, 2), come(0))
		want(t, "told of the earlier one behind it", told, 0, 1)
	}
	// 1 has seen time go on, so its deletion is behind what 2 writes afterwards.
	m := does(t, begun(t, 2, row(2), 1, 8), put(1, 3, nil, "", ""), put(1, 3, nil, "", ""), remove(1, 3), put(2, 3, nil, "", "early"))
	want(t, "by time", m, 0, 1)
	want(t, "1 is told of the earlier one", does(t, m, tells(2, 1), come(0)), 0, 1)
	want(t, "2 is told of the last one", does(t, m, tells(1, 2), come(0)), 0, 0)
	m = does(t, m, put(2, 5, nil, "", ""), remove(2, 3), remove(2, 5))
	want(t, "2's last one of 3 is as late as 1's, and 2's", m, 0, 2)
}

// allSeen is what is written, and seen by all, in meshes of each size.
func allSeen(t *testing.T) []api.Mesh {
	t.Helper()
	var l []api.Mesh
	for size := 1; size <= api.MaxRepl; size++ {
		m := begun(t, size, full(size), 4, 8)
		for n := range 3 {
			for item := 1; item <= api.MaxItem; item++ {
				m = does(t, m, put(1+(item+n)%size, item, nil, "a", fmt.Sprint(n)))
			}
		}
		m = does(t, m, remove(1+3%size, 1), filter(size, "^b"))
		m = rounds(m, goal.Bound(m))
		want(t, "all seen", m, 0, 0)
		l = append(l, m)
	}
	return l
}

// TestMissingOfOnePair: a replica that has seen none of a thing, an earlier one, or another one, lacks it, and one that has seen just that one does not.
func TestMissingOfOnePair(t *testing.T) {
	for _, m := range allSeen(t) {
		for i := range m.Repls {
			for k := range api.MaxItem {
				what := fmt.Sprintf("%d of %d, thing %d", i+1, m.Size, k+1)
				for name, turn := range map[string]func(l *[]api.Head){
					"none":               func(l *[]api.Head) { *l = slices.Delete(*l, k, k+1) },
					"an earlier time":    func(l *[]api.Head) { (*l)[k].S.L-- },
					"a later time":       func(l *[]api.Head) { (*l)[k].S.L++ },
					"an earlier replica": func(l *[]api.Head) { (*l)[k].S.R-- },
					"a later replica":    func(l *[]api.Head) { (*l)[k].S.R++ },
					"an earlier write":   func(l *[]api.Head) { (*l)[k].S.N-- },
					"a later write":      func(l *[]api.Head) { (*l)[k].S.N++ },
					"the next one's":     func(l *[]api.Head) { (*l)[k].S = (*l)[(k+1)%api.MaxItem].S },
					"what is no stamp":   func(l *[]api.Head) { (*l)[k].S = api.Stamp{} },
					"an earlier one's own": func(l *[]api.Head) {
						for _, v := range m.Issued {
							if v.Item == k+1 {
								(*l)[k].S = v.S
								return
							}
						}
					},
				} {
					other := copyOf(m)
					turn(&other.Repls[i].Views[i].Seen)
					want(t, what+" has seen "+name, other, 0, 1)
				}
			}
		}
	}
}

// TestMissingOfSomePairs: whichever things each has not seen, each counts once.
func TestMissingOfSomePairs(t *testing.T) {
	l := allSeen(t)
	for set := range 1 << (2 * api.MaxItem) {
		m := copyOf(l[1])
		count := 0
		for i := range m.Repls {
			lacks := func(h api.Head) bool { return set>>(i*api.MaxItem+h.Item-1)&1 == 1 }
			own := &m.Repls[i].Views[i]
			own.Seen = slices.DeleteFunc(own.Seen, lacks)
			count += api.MaxItem - len(own.Seen)
		}
		want(t, fmt.Sprintf("%b", set), m, 0, count)
	}
	for n := range 500 {
		c := chance(n)
		m := copyOf(l[c.below(len(l))])
		count := 0
		for i := range m.Repls {
			own := &m.Repls[i].Views[i]
			for k := range own.Seen {
				if c.below(3) == 0 {
					own.Seen[k].S.L += c.of(-1, 1, 5)
					count++
				}
			}
			for item := 1; item <= api.MaxItem; item++ {
				if k := slices.IndexFunc(own.Seen, func(h api.Head) bool { return h.Item == item }); c.below(4) == 0 {
					if last, _ := lastOf(m, item); own.Seen[k].S == last {
						count++
					}
					own.Seen = slices.Delete(own.Seen, k, k+1)
				}
			}
		}
		want(t, "some of them", m, 0, count)
	}
}

// TestMissingOfWhatWasWritten: what was never written counts nothing, be it seen or held; of what was, only the last one counts.
func TestMissingOfWhatWasWritten(t *testing.T) {
	for _, m := range allSeen(t) {
		for item := 1; item <= api.MaxItem; item++ {
			other := copyOf(m)
			other.Issued = slices.DeleteFunc(other.Issued, func(v api.Version) bool { return v.Item == item })
			want(t, "seen, and never written", other, 0, 0)
			for i := range other.Repls {
				own := &other.Repls[i].Views[i]
				own.Seen = slices.DeleteFunc(own.Seen, func(h api.Head) bool { return h.Item == item })
				want(t, "never written, and not seen by some", other, 0, 0)
			}
			other.Issued = nil
			want(t, "nothing was written", other, 0, 0)
		}
		other := copyOf(m)
		slices.Reverse(other.Issued)
		want(t, "in another order", other, 0, 0)
		other.Issued = append(other.Issued, other.Issued...)
		want(t, "each twice", other, 0, 0)
		for i := range other.Issued {
			other.Issued[i].Tag, other.Issued[i].Dead = "z", !other.Issued[i].Dead
		}
		want(t, "of other tags", other, 0, 0)
	}
}

// TestMissingHangsOnSeen: it is what is seen that counts, not what is held, nor what one knows that others have seen.
func TestMissingHangsOnSeen(t *testing.T) {
	for _, m := range allSeen(t) {
		bare := copyOf(m)
		for i := range bare.Repls {
			bare.Repls[i].Held = nil
			for k := range bare.Repls[i].Views {
				if k != i {
					bare.Repls[i].Views[k].Seen = nil
				}
			}
		}
		want(t, "none is held", bare, 0, 0)
		laden := copyOf(m)
		for i := range laden.Repls {
			for k := range laden.Repls[i].Views {
				laden.Repls[i].Views[k].Seen = slices.Clone(m.Repls[0].Views[0].Seen)
			}
			laden.Repls[i].Views[i].Seen = nil
			laden.Repls[i].Held = slices.Clone(m.Repls[0].Held)
			want(t, "held, and not seen", laden, 0, api.MaxItem*(i+1))
		}
	}
	// In a mesh that calls told: who hears of a thing that it does not want, and drops it, has seen it still.
	m := does(t, begun(t, 2, row(2), 4, 8), filter(2, "!*"), put(1, 1, nil, "a", ""))
	m = rounds(m, goal.Bound(m))
	if len(m.Repls[1].Held) != 0 {
		t.Fatalf("2 holds %+v", m.Repls[1].Held)
	}
	want(t, "seen, and not held", m, 0, 0)
	// And who sets its filter has seen no more what it does not hold.
	want(t, "set", does(t, m, filter(2, "*")), 1, 1)
}
