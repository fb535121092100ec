package mesh

import (
	"strings"
	"testing"

	"cardamom/api"
	"cardamom/gput"
	"cardamom/repl"
)

// TestNoKind: what is of no Kind is not done, whatever else it says.
func TestNoKind(t *testing.T) {
	for _, m := range []api.Mesh{begun(t, 1, nil, 1, 0), busy(t)} {
		for _, k := range noKinds() {
			wantLeft(t, m, api.Step{Kind: k}, api.EArg)
			wantLeft(t, m, api.Step{Kind: k, R: 1, To: 2, I: 0, Item: 1, Attrs: []api.Attr{{Key: 1, Val: 2}}, Tag: "ab", Text: "*"}, api.EArg)
			wantLeft(t, m, api.Step{Kind: k, R: 9, To: 9, I: 9, Item: 9, Text: "?"}, api.EArg)
		}
	}
}

// TestNoReplica: there is no such one to write, to delete, to set the filter of, to tell, to be told; whatever else would be wrong.
func TestNoReplica(t *testing.T) {
	for size := 1; size <= api.MaxRepl; size++ {
		m := does(t, begun(t, size, row(size), 1, 8), put(1, 1, nil, "a", "x"), put(size, 2, nil, "b", "y"))
		for n := 1; n <= size; n++ {
			does(t, m, put(n, 3, nil, "", ""), filter(n, "^a"))
		}
		for _, n := range notOf(1, size) {
			for _, s := range []api.Step{put(n, 1, nil, "a", "x"), put(n, 9, nil, "?", "x"), remove(n, 1), remove(n, 5), remove(n, 9), filter(n, "*"), filter(n, "?"), tells(n, 1), tells(1, n), tells(n, n), tells(n, n+1)} {
				wantLeft(t, m, s, api.EArg)
			}
		}
	}
}

// TestWritesOfNone: what may not be is not written.
func TestWritesOfNone(t *testing.T) {
	m := busy(t)
	for n := 1; n <= 3; n++ {
		for _, item := range notOf(1, api.MaxItem) {
			wantLeft(t, m, put(n, item, nil, "a", "x"), api.EArg)
			wantLeft(t, m, remove(n, item), api.ENone)
		}
		for _, attrs := range [][]api.Attr{{{Key: 4, Val: 1}}, {{Key: -1, Val: 1}}, {{Key: 1, Val: 100}}, {{Key: 1, Val: -1}}, {{Key: 1, Val: 1}, {Key: 1, Val: 1}}, {{Key: 2, Val: 1}, {Key: 1, Val: 1}}, {{Key: 0}, {Key: 1}, {Key: 2}, {Key: 3}}, make([]api.Attr, 5000)} {
			wantLeft(t, m, put(n, 1, attrs, "a", "x"), api.EArg)
		}
		for _, tag := range []string{"abcdefg", "A", "a1", "\xff", " ", strings.Repeat("a", 5000)} {
			wantLeft(t, m, put(n, 1, nil, tag, "x"), api.EArg)
		}
		wantLeft(t, m, put(n, 1, nil, "a", "thirteen byte"), api.EArg)
		wantLeft(t, m, put(n, 1, nil, "a", strings.Repeat("x", 5000)), api.EArg)
	}
}

// TestWritesAtTheEnd: behind its last number, or the last time, a replica writes nothing; the others do.
func TestWritesAtTheEnd(t *testing.T) {
	m := begun(t, 2, row(2), 1, 8)
	for i := range api.MaxCount {
		m = does(t, m, put(1, 1+i%2, nil, "", ""))
	}
	if v := m.Issued[api.MaxCount-1]; v.S.N != api.MaxCount || len(m.Issued) != api.MaxCount {
		t.Fatalf("%+v", v)
	}
	wantLeft(t, m, put(1, 1, nil, "", ""), api.EMax)
	wantLeft(t, m, remove(1, 1), api.EMax)
	wantLeft(t, m, put(1, 9, nil, "", ""), api.EArg)
	wantLeft(t, m, remove(1, 3), api.ENone)
	m = does(t, m, put(2, 1, nil, "", ""), filter(1, "^a"), tells(1, 2), come(0))
	late := busy(t)
	late.Repls[1].L = api.MaxCount * api.MaxRepl
	wantLeft(t, late, put(2, 1, nil, "a", ""), api.EMax)
	wantLeft(t, late, remove(2, 1), api.EMax)
	wantLeft(t, late, put(2, 1, nil, "?", ""), api.EArg)
	late.Repls[1].L--
	does(t, late, put(2, 1, nil, "a", ""))
}

// TestNoRoom: each quota, up to it and one more: what is not wanted, and a filter that wants too little.
func TestNoRoom(t *testing.T) {
	for quota := 0; quota <= api.MaxItem; quota++ {
		wants := does(t, begun(t, 2, row(2), 1, quota), filter(2, "^w"), put(2, 6, nil, "w", ""))
		m := wants
		for item := 1; item <= min(quota, 5); item++ {
			m = does(t, m, put(2, item, nil, "", ""))
		}
		if quota < 5 {
			wantLeft(t, m, put(2, quota+1, nil, "", ""), api.EFull)
			wantLeft(t, m, put(2, 6, nil, "v", ""), api.EFull)
			if quota > 0 {
				does(t, m, put(2, quota, nil, "", "anew"), remove(2, quota))
			}
			does(t, m, put(2, quota+1, nil, "wa", ""), remove(2, 6))
		}
		m = wants
		for item := 1; item <= quota; item++ {
			m = does(t, m, put(2, item, nil, "w", ""))
		}
		if quota > 0 {
			m = does(t, m, remove(2, 6), put(2, 6, nil, "", ""))
		}
		if quota < api.MaxItem {
			m = does(t, m, put(2, 1+quota%5, nil, "w", ""))
		}
		over := len(m.Repls[1].Held) > quota
		next, e := Do(m, filter(2, "!*"))
		if over != (e == api.EFull) || !over && e != api.OK || over && !alike(next, m) {
			t.Errorf("quota %d, %d held: %d", quota, len(m.Repls[1].Held), e)
		}
	}
}

// TestNoFilter: a text that is none is not set.
func TestNoFilter(t *testing.T) {
	m := busy(t)
	for n := 1; n <= 3; n++ {
		for _, text := range []string{"", "@", "^A", "^a &", "(*", "*)", "@4=1", "@1=100", "@1:5-4x", "\xff", strings.Repeat("!", 81) + "*", strings.Repeat("(", 5000)} {
			wantLeft(t, m, filter(n, text), api.EForm)
		}
	}
}

// laden is two with so many on their way.
func laden(t *testing.T, n int) api.Mesh {
	t.Helper()
	m := does(t, begun(t, 3, row(3), 4, 8), put(1, 1, nil, "a", "x"))
	for i := range n {
		m = does(t, m, []api.Step{tells(1, 2), tells(2, 1), tells(2, 3), tells(3, 2)}[i%4])
	}
	return m
}

// TestRoomOnTheWay: none, one, one less than there may be, and as many; numbers just in and just out.
func TestRoomOnTheWay(t *testing.T) {
	for _, n := range []int{0, 1, 2, api.MaxFly - 1, api.MaxFly} {
		m := laden(t, n)
		for _, i := range append(notOf(0, n-1), n, n+1) {
			for _, s := range []api.Step{come(i), lose(i), twice(i), turn(i, 1), turn(i, 0), turn(i, -1)} {
				wantLeft(t, m, s, api.ENone)
			}
		}
		if n > 0 {
			for _, i := range []int{0, n - 1} {
				does(t, m, come(i))
				does(t, m, lose(i))
				does(t, m, turn(i, 1))
			}
		}
		for _, w := range [][2]int{{1, 2}, {2, 1}, {2, 3}, {3, 2}} {
			if n == api.MaxFly {
				wantLeft(t, m, tells(w[0], w[1]), api.ELost)
				wantLeft(t, m, twice(w[0]), api.ENone)
				does(t, m, lose(w[0]), tells(w[0], w[1]))
				does(t, m, come(w[0]), twice(w[0]))
				continue
			}
			m2 := does(t, m, tells(w[0], w[1]))
			if n > 0 {
				m2 = does(t, m, twice(n-1))
			}
			if len(m2.Fly) != n+1 {
				t.Errorf("%d on their way", len(m2.Fly))
			}
		}
		// Not beside one another: there is none to tell, whether there is room or not.
		for _, w := range [][2]int{{1, 3}, {3, 1}, {1, 1}, {0, 1}, {3, 4}, {-1, 0}} {
			wantLeft(t, m, tells(w[0], w[1]), api.EArg)
		}
	}
}

// TestEachTurn: whichever byte of what was sent is turned, by whichever bits: nothing is made of it, and all is as it was but that it is gone.
func TestEachTurn(t *testing.T) {
	m := does(t, begun(t, 2, row(2), 4, 8), put(1, 3, []api.Attr{{Key: 1, Val: 5}}, "ab", "some"), filter(2, "^a"), put(2, 4, nil, "a", "x"), tells(2, 1), put(2, 4, nil, "a", ""), filter(1, "^ab|^b"), tells(1, 2), tells(2, 1))
	for i, gram := range m.Fly {
		gone := copyOf(m)
		gone.Fly = append(gone.Fly[:i], gone.Fly[i+1:]...)
		if next := does(t, m, come(i)); repl.Same(next.Repls[gram.To-1], m.Repls[gram.To-1]) {
			t.Errorf("%d tells nothing", i)
		}
		for at := range len(gram.B) {
			for bits := 1; bits < 256; bits++ {
				turned, e := Do(m, turn(i, at*256+bits))
				if _, ok := gput.Take([]byte(turned.Fly[i].B), 2); e != api.OK || ok || !turned.Fly[i].Turned {
					t.Fatalf("%d turned at %d by %d: %d", i, at, bits, e)
				}
				got, e := Do(turned, come(i))
				if e != api.EForm || !Same(got, gone) {
					t.Fatalf("%d turned at %d by %d: %d, %+v", i, at, bits, e, got)
				}
			}
		}
	}
}

// TestRefusedComes: what take.From refuses, or no replica is there to take, is gone too, and its error is told.
func TestRefusedComes(t *testing.T) {
	m := laden(t, 4)
	for i, gram := range m.Fly {
		other := copyOf(m)
		// Another one stands there than it is for.
		other.Repls[gram.To-1].ID = gram.From
		gone := copyOf(other)
		gone.Fly = append(gone.Fly[:i], gone.Fly[i+1:]...)
		wantDo(t, other, come(i), gone, api.EArg)
		other.Repls, gone.Repls = other.Repls[:gram.To-1], gone.Repls[:gram.To-1]
		wantDo(t, other, come(i), gone, api.EArg)
	}
}

// TestWhoItSaysItIsFor: its bytes say that, whatever is written beside them.
func TestWhoItSaysItIsFor(t *testing.T) {
	m := laden(t, 4)
	for i, gram := range m.Fly {
		for _, n := range []int{0, 1, 2, 3, 4} {
			odd := copyOf(m)
			odd.Fly[i].From, odd.Fly[i].To = n, n
			wantDo(t, odd, come(i), does(t, m, come(i)), api.OK)
		}
		odd := copyOf(m)
		odd.Fly[i].B = strings.ToUpper(gram.B) + "x"
		gone := does(t, m, lose(i))
		wantDo(t, odd, come(i), gone, api.EForm)
		odd.Fly[i].B = ""
		wantDo(t, odd, come(i), gone, api.EForm)
	}
}
