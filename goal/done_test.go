package goal

import (
	"fmt"
	"slices"
	"testing"

	"cardamom/api"
	"cardamom/mesh"
)

// at puts v where it belongs in what replica i + 1 holds, in the place of what is there of its thing.
func at(m *api.Mesh, i int, v api.Version) {
	l := slices.DeleteFunc(m.Repls[i].Held, func(x api.Version) bool { return x.Item == v.Item })
	l = append(l, v)
	slices.SortFunc(l, func(a, b api.Version) int { return a.Item - b.Item })
	m.Repls[i].Held = l
}

func without(m *api.Mesh, i, item int) {
	m.Repls[i].Held = slices.DeleteFunc(m.Repls[i].Held, func(x api.Version) bool { return x.Item == item })
}

// wantDone asks for what Done tells of m behind a change of it.
func wantDone(t *testing.T, what string, m api.Mesh, want bool, change func(m *api.Mesh)) {
	t.Helper()
	other := copyOf(m)
	change(&other)
	if Done(other) != want {
		t.Errorf("%s: %v, of\n%+v", what, !want, other)
	}
}

// finished is meshes of which all is done, of each size, with some in store of each and some in custody.
func finished(t *testing.T) []api.Mesh {
	t.Helper()
	var l []api.Mesh
	for size := 1; size <= api.MaxRepl; size++ {
		for _, edges := range [][][2]int{row(size), full(size)} {
			m := begun(t, size, edges, 2, 8)
			for i := range size {
				m = does(t, m, filter(i+1, []string{"^a", "^b|^ab", "^b", "^a|^b", "^a"}[i]))
			}
			for item := 1; item <= api.MaxItem; item++ {
				for k := range 3 {
					m = does(t, m, put(1+(item+k)%size, item, []api.Attr{{Key: k, Val: item}}, []string{"a", "ab", "b", "c", "ba", "cd"}[item-1], fmt.Sprint(k)))
				}
			}
			m = does(t, m, remove(1+3%size, 1), remove(1+6%size, 4))
			m = rounds(m, Bound(m))
			if !Done(m) || !Kept(m) {
				t.Fatalf("it is not done: %+v", m)
			}
			l = append(l, m)
		}
	}
	return l
}

// TestDoneOfHeads: no, where one replica's own Seen lacks one head, has one more, an earlier or a later stamp, or not their order; what it knows of the others' is nothing to it.
func TestDoneOfHeads(t *testing.T) {
	for _, m := range finished(t) {
		for i := range m.Repls {
			seen := func(m *api.Mesh) *[]api.Head { return &m.Repls[i].Views[i].Seen }
			for k := range api.MaxItem {
				what := fmt.Sprintf("%d of %d, head %d", i+1, m.Size, k)
				wantDone(t, what+" is lacking", m, false, func(m *api.Mesh) { *seen(m) = slices.Delete(*seen(m), k, k+1) })
				wantDone(t, what+" is earlier", m, false, func(m *api.Mesh) { (*seen(m))[k].S.L-- })
				wantDone(t, what+" is of an earlier write", m, false, func(m *api.Mesh) { (*seen(m))[k].S.N-- })
				wantDone(t, what+" is of another one", m, false, func(m *api.Mesh) { (*seen(m))[k].S.R++ })
				wantDone(t, what+" is later", m, false, func(m *api.Mesh) { (*seen(m))[k].S.L++ })
				wantDone(t, what+" is of another thing", m, false, func(m *api.Mesh) { (*seen(m))[k].Item += 6 })
			}
			what := fmt.Sprintf("%d of %d", i+1, m.Size)
			wantDone(t, what+" has one more", m, false, func(m *api.Mesh) { *seen(m) = append(*seen(m), api.Head{Item: 7, S: stampOf(1, 1, 1)}) })
			wantDone(t, what+" has one more ahead", m, false, func(m *api.Mesh) { *seen(m) = slices.Insert(*seen(m), 0, api.Head{S: stampOf(1, 1, 1)}) })
			wantDone(t, what+" has none", m, false, func(m *api.Mesh) { *seen(m) = nil })
			for k := range m.Repls {
				if k != i {
					wantDone(t, what+" of others", m, true, func(m *api.Mesh) { m.Repls[i].Views[k].Seen = nil })
				}
			}
		}
	}
}

// TestDoneOfOneThingLess: a head that was seen of what was never written is one more.
func TestDoneOfOneThingLess(t *testing.T) {
	for size := 1; size <= api.MaxRepl; size++ {
		m := begun(t, size, row(size), 1, 8)
		for i := range size {
			wantDone(t, "a head of nothing", m, false, func(m *api.Mesh) { m.Repls[i].Views[i].Seen = []api.Head{{Item: 2, S: stampOf(1, 1, 1)}} })
			wantDone(t, "held, and not written", m, false, func(m *api.Mesh) { m.Repls[i].Held = []api.Version{versionOf(2, stampOf(1, 1, 1), "", "")} })
			wantDone(t, "in custody, and not written", does(t, m, filter(i+1, "^a")), false, func(m *api.Mesh) { m.Repls[i].Held = []api.Version{versionOf(2, stampOf(1, 1, 1), "", "")} })
		}
		m = does(t, m, put(1, 2, nil, "", ""))
		if Done(m) != (size == 1) {
			t.Errorf("size %d: %v", size, Done(m))
		}
	}
}

// TestDoneOfStore: no, where one lacks what its filter lets through, or holds what is not just that.
func TestDoneOfStore(t *testing.T) {
	for _, m := range finished(t) {
		for i := range m.Repls {
			for k, v := range Store(m, i+1) {
				what := fmt.Sprintf("%d of %d, number %d", i+1, m.Size, k)
				wantDone(t, what+" is lacking", m, false, func(m *api.Mesh) { without(m, i, v.Item) })
				for name, turn := range partsOf() {
					wantDone(t, what+" differs in "+name, m, false, func(m *api.Mesh) {
						x := copyOf(v)
						turn(&x)
						without(m, i, v.Item)
						at(m, i, x)
					})
				}
			}
			wantDone(t, "none is held", m, len(Target(m, i+1)) == 0, func(m *api.Mesh) { m.Repls[i].Held = nil })
			for _, v := range m.Issued {
				last := has(modelLast(m), v)
				if modelLets(m.Repls[i], v) && !last {
					wantDone(t, "an earlier one is in store", m, false, func(m *api.Mesh) { at(m, i, v) })
				}
			}
		}
	}
}

// TestDoneOfAFilter: what is in store, and is to be, follows the filter of each, which may be another one of the same sense.
func TestDoneOfAFilter(t *testing.T) {
	for _, m := range finished(t) {
		for i := range m.Repls {
			own := func(m *api.Mesh) *string { return &m.Repls[i].Views[i].Filter }
			was := *own(&m)
			wantDone(t, "all of it", m, m.Size == 1, func(m *api.Mesh) { *own(m) = "*" })
			wantDone(t, "none of it", m, m.Size == 1, func(m *api.Mesh) { *own(m) = "!*" })
			wantDone(t, "the same of it", m, true, func(m *api.Mesh) { *own(m) = " ( " + was + " ) & *" })
			wantDone(t, "as others know it", m, true, func(m *api.Mesh) {
				for k := range m.Repls {
					if k != i {
						m.Repls[k].Views[i].Filter = "!*"
					}
				}
			})
		}
	}
}

// TestDoneOfCustody: no, where one has in custody what is not the last of its thing, or what another one wants; yes for the last of what none wants, be it held or not.
func TestDoneOfCustody(t *testing.T) {
	counts := map[string]int{}
	for _, m := range finished(t) {
		last := modelLast(m)
		for i, r := range m.Repls {
			for _, v := range m.Issued {
				if modelLets(r, v) {
					continue
				}
				wanted := slices.ContainsFunc(m.Repls, func(x api.Repl) bool { return modelLets(x, v) })
				isLast := has(last, v)
				what := fmt.Sprintf("wanted: %v, last: %v", wanted, isLast)
				// What the place held of that thing in store must stay: so only where it did not.
				if slices.ContainsFunc(r.Held, func(x api.Version) bool { return x.Item == v.Item && modelLets(r, x) }) {
					continue
				}
				counts[what]++
				wantDone(t, what, m, isLast && !wanted, func(m *api.Mesh) { at(m, i, v) })
				wantDone(t, "none of it in custody", m, true, func(m *api.Mesh) { // at others it is no sooner done
					if has(m.Repls[i].Held, v) {
						without(m, i, v.Item)
					}
				})
				for name, turn := range partsOf() {
					x := copyOf(v)
					if turn(&x); modelLets(r, x) {
						continue
					}
					wantDone(t, what+", but for "+name, m, false, func(m *api.Mesh) { without(m, i, v.Item); at(m, i, x) })
				}
			}
		}
	}
	for _, wanted := range []bool{true, false} {
		for _, isLast := range []bool{true, false} {
			if what := fmt.Sprintf("wanted: %v, last: %v", wanted, isLast); counts[what] < 10 {
				t.Errorf("%s: %d times", what, counts[what])
			}
		}
	}
}

// TestDoneOfCustodyOfOneAlone: the one that wants what another has in custody may be any of them, ahead of it or behind.
func TestDoneOfCustodyOfOneAlone(t *testing.T) {
	for size := 2; size <= api.MaxRepl; size++ {
		for holder := 1; holder <= size; holder++ {
			for who := 1; who <= size; who++ {
				m := begun(t, size, full(size), 1, 8)
				for r := 1; r <= size; r++ {
					m = does(t, m, filter(r, "^b"))
				}
				m = does(t, m, put(holder, 3, nil, "a", "x"))
				m = rounds(m, Bound(m))
				wantDone(t, "none wants it", m, true, func(m *api.Mesh) {})
				for r := 1; r <= size; r++ {
					wantDone(t, "all have it in custody", m, true, func(m *api.Mesh) { at(m, r-1, m.Issued[0]) })
				}
				wantDone(t, "one wants it", m, false, func(m *api.Mesh) { m.Repls[who-1].Views[who-1].Filter = "^a" })
				wantDone(t, "one wants it, and has it", m, who == holder, func(m *api.Mesh) {
					m.Repls[who-1].Views[who-1].Filter = "^a"
					for i := range m.Repls {
						without(m, i, 3)
					}
					at(m, who-1, m.Issued[0])
					at(m, holder-1, m.Issued[0])
				})
			}
		}
	}
}

// TestDoneHangsOnNothingElse: what is on its way, who is beside whom, how often filters were set, or what one knows of others is nothing to it.
func TestDoneHangsOnNothingElse(t *testing.T) {
	for _, m := range finished(t) {
		wantDone(t, "all else is another", m, true, func(m *api.Mesh) {
			m.Batch, m.Edges, m.Fly = 9, nil, []api.Gram{{From: 1, To: 2, B: "x"}}
			for i := range m.Repls {
				r := &m.Repls[i]
				r.L, r.N, r.Quota = r.L+1, r.N+1, 0
				for k := range r.Views {
					r.Views[k].Rev++
					r.Views[k].Epochs = nil
					if k != i {
						r.Views[k] = api.View{R: k + 1}
					}
				}
			}
		})
		// The order in which all was written is none of it, as the stamps stay.
		wantDone(t, "written in another order", m, true, func(m *api.Mesh) { slices.Reverse(m.Issued) })
	}
}

// TestDoneByAndBy: no at first; yes behind Rounds, and from then on.
func TestDoneByAndBy(t *testing.T) {
	m := laden(t)
	was := false
	for n := range Bound(m) + 10 {
		now := Done(m)
		if was && !now {
			t.Fatalf("%d: not done any more", n)
		}
		if now && n == 0 {
			t.Fatal("done at first")
		}
		was = now
		m = mesh.Round(m)
	}
	if !was {
		t.Error("never done")
	}
}
