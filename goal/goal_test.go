package goal

import (
	"fmt"
	"slices"
	"testing"

	"cardamom/api"
	"cardamom/mesh"
)

// TestOfANewOne: the chapter's example, of each size: nothing is written, so nothing is to do.
func TestOfANewOne(t *testing.T) {
	for size := 1; size <= api.MaxRepl; size++ {
		for _, edges := range shapes(size) {
			m := begun(t, size, edges, 1, 0)
			if !Done(m) || !Kept(m) || Bound(m) != 6*size {
				t.Errorf("%d: %v, %v, %d", size, Done(m), Kept(m), Bound(m))
			}
			wantHeads(t, "a new one", Heads(m))
			for r := -1; r <= size+1; r++ {
				wantVersions(t, "a new one", Target(m, r))
				wantVersions(t, "a new one", Store(m, r))
			}
		}
	}
}

// TestHeadsOfEachThing: each thing by itself, all of them in each of some orders: by thing, each once, with the last stamp.
func TestHeadsOfEachThing(t *testing.T) {
	for item := 1; item <= api.MaxItem; item++ {
		m := does(t, begun(t, 2, row(2), 1, 8), put(2, item, nil, "", ""))
		wantHeads(t, "one thing", Heads(m), api.Head{Item: item, S: stampOf(1, 2, 1)})
		m = does(t, m, put(2, item, nil, "", ""))
		wantHeads(t, "one thing twice", Heads(m), api.Head{Item: item, S: stampOf(2, 2, 2)})
	}
	for _, order := range [][]int{{1, 2, 3, 4, 5, 6}, {6, 5, 4, 3, 2, 1}, {3, 1, 6, 2, 5, 4}, {2, 4, 6, 1, 3, 5}} {
		m := begun(t, 2, row(2), 1, 8)
		want := make([]api.Head, api.MaxItem)
		for round := range 3 {
			for k, item := range order {
				m = does(t, m, put(1, item, nil, "", ""))
				n := round*api.MaxItem + k + 1
				want[item-1] = api.Head{Item: item, S: stampOf(n, 1, n)}
			}
			wantHeads(t, fmt.Sprint(order), Heads(m), want...)
		}
	}
}

// TestLastIsByStamp: what was written last of two that did not know of one another is what has the later stamp, not what is further behind in Issued.
func TestLastIsByStamp(t *testing.T) {
	// 1 has seen time go on by its own writes; 2 writes behind it, at its own time 1.
	m := does(t, begun(t, 2, row(2), 1, 8), put(1, 5, nil, "", "x"), put(1, 5, nil, "", "y"), put(1, 3, nil, "a", "late"), put(2, 3, nil, "b", "early"))
	if m.Issued[3].S != stampOf(1, 2, 1) {
		t.Fatalf("%+v", m.Issued)
	}
	wantHeads(t, "by time", Heads(m), api.Head{Item: 3, S: stampOf(3, 1, 3)}, api.Head{Item: 5, S: stampOf(2, 1, 2)})
	for r := 1; r <= 2; r++ {
		wantVersions(t, "by time", Target(m, r), versionOf(3, stampOf(3, 1, 3), "a", "late"), versionOf(5, stampOf(2, 1, 2), "", "y"))
	}
	wantVersions(t, "what 2 has", Store(m, 2), versionOf(3, stampOf(1, 2, 1), "b", "early"))
	// At the same time the replica's number tells.
	for _, order := range [][]int{{1, 2}, {2, 1}} {
		m = begun(t, 2, row(2), 1, 8)
		for _, r := range order {
			m = does(t, m, put(r, 4, nil, "", fmt.Sprint(r)))
		}
		wantHeads(t, fmt.Sprint(order), Heads(m), api.Head{Item: 4, S: stampOf(1, 2, 1)})
		for r := 1; r <= 2; r++ {
			wantVersions(t, fmt.Sprint(order), Target(m, r), versionOf(4, stampOf(1, 2, 1), "", "2"))
		}
		m = does(t, m, put(1, 4, nil, "", "again"))
		wantHeads(t, "written again", Heads(m), api.Head{Item: 4, S: stampOf(2, 1, 2)})
	}
	// And what was written by one that was told is behind it, whoever wrote it.
	m = does(t, begun(t, 2, row(2), 1, 8), put(2, 4, nil, "", "a"), tells(2, 1), come(0), put(1, 4, nil, "", "b"))
	wantHeads(t, "written behind", Heads(m), api.Head{Item: 4, S: stampOf(2, 1, 1)})
}

// TestHeadsOfDeletions: a deletion is written too, and what is written behind it.
func TestHeadsOfDeletions(t *testing.T) {
	attrs := []api.Attr{{Key: 1, Val: 7}}
	m := does(t, begun(t, 1, nil, 1, 8), put(1, 2, attrs, "ab", "body"), remove(1, 2))
	dead := api.Version{Item: 2, S: stampOf(2, 1, 2), Dead: true, Attrs: attrs, Tag: "ab"}
	wantHeads(t, "a deletion", Heads(m), api.Head{Item: 2, S: dead.S})
	wantVersions(t, "a deletion", Target(m, 1), dead)
	wantVersions(t, "a deletion", Store(m, 1), dead)
	if !Done(m) || !Kept(m) || Bound(m) != 10 {
		t.Errorf("a deletion: %v, %v, %d", Done(m), Kept(m), Bound(m))
	}
	m = does(t, m, filter(1, "^b"))
	wantVersions(t, "a deletion that is not wanted", Target(m, 1))
	wantVersions(t, "a deletion that is not wanted", Store(m, 1))
	m = does(t, m, put(1, 2, nil, "b", "again"))
	again := versionOf(2, stampOf(3, 1, 3), "b", "again")
	wantHeads(t, "written again", Heads(m), api.Head{Item: 2, S: again.S})
	wantVersions(t, "written again", Target(m, 1), again)
	wantVersions(t, "written again", Store(m, 1), again)
}

// laden is three in a row, each with its filter, that have not told one another yet: 1 lets through tags from a, 2 from b, 3 what has an attribute 1 of 3 to 9.
func laden(t *testing.T) api.Mesh {
	t.Helper()
	return does(t, begun(t, 3, row(3), 1, 8),
		filter(1, "^a"), filter(2, "^b"), filter(3, "@1:3-9"),
		put(1, 6, nil, "ab", "six"),
		put(1, 1, []api.Attr{{Key: 0, Val: 99}, {Key: 1, Val: 3}, {Key: 3, Val: 0}}, "b", "one"),
		put(2, 3, nil, "a", "three"),
		put(3, 2, []api.Attr{{Key: 1, Val: 9}}, "a", "\x00\xff twelve by"),
		put(2, 5, []api.Attr{{Key: 1, Val: 10}}, "c", ""),
		put(3, 4, []api.Attr{{Key: 1, Val: 2}}, "ba", ""),
		put(1, 3, nil, "b", "again"),
		remove(3, 2))
}

// whatLadenHas is the last of each thing of laden, by thing, from 1 on.
func whatLadenHas() []api.Version {
	return []api.Version{
		{Item: 1, S: stampOf(2, 1, 2), Attrs: []api.Attr{{Key: 0, Val: 99}, {Key: 1, Val: 3}, {Key: 3, Val: 0}}, Tag: "b", Body: "one"},
		{Item: 2, S: stampOf(3, 3, 3), Dead: true, Attrs: []api.Attr{{Key: 1, Val: 9}}, Tag: "a"},
		{Item: 3, S: stampOf(3, 1, 3), Tag: "b", Body: "again"},
		{Item: 4, S: stampOf(2, 3, 2), Attrs: []api.Attr{{Key: 1, Val: 2}}, Tag: "ba"},
		{Item: 5, S: stampOf(2, 2, 2), Attrs: []api.Attr{{Key: 1, Val: 10}}, Tag: "c"},
		{Item: 6, S: stampOf(1, 1, 1), Tag: "ab", Body: "six"},
	}
}

// TestTarget: whole versions, those that the filter lets through and no other, by thing, be they held there or not.
func TestTarget(t *testing.T) {
	m, l := laden(t), whatLadenHas()
	wantVersions(t, "of 1", Target(m, 1), l[1], l[5])
	wantVersions(t, "of 2", Target(m, 2), l[0], l[2], l[3])
	wantVersions(t, "of 3", Target(m, 3), l[0], l[1])
	for text, want := range map[string][]api.Version{"*": l, "!*": nil, "^c": l[4:5], "!^b": {l[1], l[4], l[5]}, "@1:0-99": {l[0], l[1], l[3], l[4]}, "@3=0": l[:1], "@3=1": nil, "^b&!@1:0-99|^ab": {l[2], l[5]}} {
		for r := 1; r <= 3; r++ {
			now := does(t, m, filter(r, text))
			wantVersions(t, text, Target(now, r), want...)
			wantVersions(t, "of another one", Target(now, r%3+1), Target(m, r%3+1)...)
		}
	}
}

// TestTargetHangsOnNothingElse: what is held, seen, or on its way is nothing to it.
func TestTargetHangsOnNothingElse(t *testing.T) {
	m := laden(t)
	bare := copyOf(m)
	for i := range bare.Repls {
		bare.Repls[i].Held, bare.Repls[i].Views[i].Seen = nil, nil
	}
	later := does(t, rounds(m, 3), tells(1, 2), tells(2, 3))
	for r := 1; r <= 3; r++ {
		wantVersions(t, "of one that holds nothing", Target(bare, r), Target(m, r)...)
		wantVersions(t, "behind Rounds", Target(later, r), Target(m, r)...)
		wantVersions(t, "when all is done", Target(rounds(m, Bound(m)), r), Target(m, r)...)
	}
}

// TestStore: what is held and the filter lets through, and not what is in custody.
func TestStore(t *testing.T) {
	m, l := laden(t), whatLadenHas()
	wantVersions(t, "of 1", Store(m, 1), l[5])
	wantVersions(t, "of 2", Store(m, 2))
	wantVersions(t, "of 3", Store(m, 3), l[1])
	early := versionOf(3, stampOf(1, 2, 1), "a", "three")
	for text, want := range map[string][]api.Version{"*": {early, l[4]}, "^a": {early}, "!^a": {l[4]}, "!*": nil, "^ab": nil, "@1=10|^a": {early, l[4]}} {
		now := does(t, m, filter(2, text))
		wantVersions(t, text, Store(now, 2), want...)
		wantVersions(t, "of another one", Store(now, 1), l[5])
		wantVersions(t, "of another one", Store(now, 3), l[1])
	}
	m = rounds(m, Bound(m))
	for r := 1; r <= 3; r++ {
		wantVersions(t, "when all is done", Store(m, r), Target(m, r)...)
	}
}

// TestStoreHangsOnHeldAndFilter: what was written, or seen, or is known of others is nothing to it.
func TestStoreHangsOnHeldAndFilter(t *testing.T) {
	m := busy(t)
	for r := 1; r <= 3; r++ {
		other := copyOf(m)
		other.Issued, other.Fly, other.Edges, other.Size = nil, nil, nil, 0
		for i := range other.Repls {
			for k := range other.Repls[i].Views {
				if k+1 != r {
					other.Repls[i].Views[k].Filter = "!*"
				}
				other.Repls[i].Views[k].Seen = nil
			}
			if i+1 != r {
				other.Repls[i].Views[r-1].Filter = "!*"
				other.Repls[i].Held = nil
			}
		}
		want := slices.DeleteFunc(copyOf(m.Repls[r-1].Held), func(v api.Version) bool { return !modelLets(m.Repls[r-1], v) })
		wantVersions(t, "of what it holds", Store(other, r), want...)
		if len(want) == 0 {
			t.Errorf("%d has nothing in store", r)
		}
	}
}

// TestNoSuchReplica: where there is none, none.
func TestNoSuchReplica(t *testing.T) {
	for size := 1; size <= api.MaxRepl; size++ {
		m := does(t, begun(t, size, row(size), 1, 8), put(1, 1, nil, "", ""), put(size, 2, nil, "", ""))
		m = mesh.Round(m)
		for _, r := range append(ends(), size, size+1, size+2, -size) {
			want := 0
			if 1 <= r && r <= size {
				want = 2
			}
			if len(Target(m, r)) != want || len(Store(m, r)) != want {
				t.Errorf("%d of %d: %v, %v", r, size, Target(m, r), Store(m, r))
			}
		}
	}
}

// TestKeptByOne: yes, if one of them holds the last of it, in store or in custody, whoever it is; no, if none does.
func TestKeptByOne(t *testing.T) {
	m := rounds(laden(t), 60)
	for item := 1; item <= api.MaxItem; item++ {
		v := whatLadenHas()[item-1]
		without := copyOf(m)
		for i := range without.Repls {
			without.Repls[i].Held = slices.DeleteFunc(without.Repls[i].Held, func(x api.Version) bool { return x.Item == item })
		}
		if Kept(without) {
			t.Errorf("none holds %d", item)
		}
		for i := range without.Repls {
			one := copyOf(without)
			one.Repls[i].Held = append(one.Repls[i].Held, v)
			slices.SortFunc(one.Repls[i].Held, func(a, b api.Version) int { return a.Item - b.Item })
			if !Kept(one) {
				t.Errorf("%d alone holds %d", i+1, item)
			}
			early := copyOf(without)
			early.Repls[i].Held = append(early.Repls[i].Held, versionOf(item, stampOf(1, 2, 1), "a", "three"))
			if Kept(early) {
				t.Errorf("%d alone holds %d, and an earlier one", i+1, item)
			}
		}
	}
}

// TestKeptInAllParts: what is held must be the last in all its parts.
func TestKeptInAllParts(t *testing.T) {
	m := rounds(laden(t), 60)
	for item := 1; item <= api.MaxItem; item++ {
		for name, turn := range partsOf() {
			other := copyOf(m)
			for i := range other.Repls {
				for k := range other.Repls[i].Held {
					if v := &other.Repls[i].Held[k]; v.Item == item {
						turn(v)
					}
				}
			}
			if Kept(other) {
				t.Errorf("%d: %s", item, name)
			}
			other = copyOf(m)
			for k := range other.Issued {
				if v := &other.Issued[k]; v.Item == item {
					turn(v)
				}
			}
			if Kept(other) {
				t.Errorf("%d as it was written: %s", item, name)
			}
		}
	}
}

// partsOf is ways in which one part of a version is another.
func partsOf() map[string]func(v *api.Version) {
	return map[string]func(v *api.Version){
		"Item":        func(v *api.Version) { v.Item += 6 },
		"L":           func(v *api.Version) { v.S.L += 9 },
		"L, earlier":  func(v *api.Version) { v.S.L -= 9 },
		"R":           func(v *api.Version) { v.S.R += 3 },
		"N":           func(v *api.Version) { v.S.N++ },
		"Dead":        func(v *api.Version) { v.Dead = !v.Dead },
		"Tag":         func(v *api.Version) { v.Tag += "z" },
		"Body":        func(v *api.Version) { v.Body += "\x00" },
		"Attrs":       func(v *api.Version) { v.Attrs = append(v.Attrs, api.Attr{}) },
		"Attrs, less": func(v *api.Version) { v.Attrs = append([]api.Attr{{Key: 2}}, v.Attrs...)[:1] },
	}
}

// TestKeptOfSeveral: of all things: one that is kept does not make up for another one, nor one held twice.
func TestKeptOfSeveral(t *testing.T) {
	m := begun(t, 2, row(2), 4, 8)
	for item := 1; item <= api.MaxItem; item++ {
		m = does(t, m, put(1, item, nil, "", ""))
	}
	m = rounds(m, Bound(m))
	for set := range 1 << (2 * api.MaxItem) {
		other := copyOf(m)
		for i := range other.Repls {
			has := func(v api.Version) bool { return set>>(i*api.MaxItem+v.Item-1)&1 == 1 }
			other.Repls[i].Held = slices.DeleteFunc(other.Repls[i].Held, func(v api.Version) bool { return !has(v) })
		}
		if want := (set|set>>api.MaxItem)&63 == 63; Kept(other) != want {
			t.Fatalf("%b: %v", set, Kept(other))
		}
	}
}

// TestKeptByAnEarlierOne: that an earlier one is held, or a later one than any that was written, is nothing to it.
func TestKeptByAnEarlierOne(t *testing.T) {
	m := does(t, begun(t, 2, row(2), 1, 8), put(1, 3, nil, "", "x"), tells(1, 2), come(0), put(1, 3, nil, "", "y"))
	if !Kept(m) {
		t.Error("1 has it")
	}
	m.Repls[0].Held = m.Repls[1].Held
	if Kept(m) {
		t.Error("both have the earlier one")
	}
	m.Repls[1].Held = []api.Version{versionOf(3, stampOf(9, 1, 9), "", "y")}
	if Kept(m) {
		t.Error("one that was not written")
	}
}

// TestBound: 6 times Size, 4 times what is held, of all of them, in store or in custody, and nothing else.
func TestBound(t *testing.T) {
	for size := 1; size <= api.MaxRepl; size++ {
		m := begun(t, size, full(size), 1, 8)
		for k := range 2 * api.MaxItem {
			r := 1 + k%size
			m = does(t, m, put(r, 1+k%api.MaxItem, nil, "", ""))
			held := 0
			for _, x := range m.Repls {
				held += len(x.Held)
			}
			if got := Bound(m); got != 6*size+4*held {
				t.Errorf("size %d: %d of %d held", size, got, held)
			}
			if got := Bound(does(t, m, filter(r, "!*"))); got != 6*size+4*held {
				t.Errorf("size %d: %d of %d held, some in custody", size, got, held)
			}
		}
	}
	m := busy(t)
	held := []int{len(m.Repls[0].Held), len(m.Repls[1].Held), len(m.Repls[2].Held)}
	if Bound(m) != 18+4*(held[0]+held[1]+held[2]) || slices.Contains(held, 0) {
		t.Errorf("%d, of %v", Bound(m), held)
	}
	m.Issued, m.Fly, m.Edges = nil, nil, nil
	m.Repls[0].Held, m.Repls[1].Held = nil, m.Repls[1].Held[:1]
	if got := Bound(m); got != 18+4*(1+held[2]) {
		t.Errorf("%d of fewer", got)
	}
	if m.Size = 5; Bound(m) != 30+4*(1+held[2]) {
		t.Errorf("%d of Size 5", Bound(m))
	}
}
