package wind

import (
	"slices"
	"strings"
	"sync"
	"testing"
	"unsafe"

	"cardamom/api"
)

// roomy is w with spare room behind each of its lists, filled with something.
func roomy(w api.Wind) api.Wind {
	w = copyOf(w)
	w.L = append(w.L, api.Seg{Num: 77, B: "spare"}, api.Seg{Num: 78}, api.Seg{Num: 79, B: "room"}, api.Seg{}, api.Seg{Num: 80})[:len(w.L)]
	w.Wait = append(w.Wait, "spare", "", "room", "of", "it")[:len(w.Wait)]
	return w
}

// wide is w with its spare room as a part of it.
func wide(w api.Wind) api.Wind {
	return copyOf(api.Wind{Base: w.Base, Next: w.Next, L: w.L[:cap(w.L)], Wait: w.Wait[:cap(w.Wait)]})
}

// spoil writes over all that w's lists have, their spare room too.
func spoil(w api.Wind) {
	l, wait := w.L[:cap(w.L)], w.Wait[:cap(w.Wait)]
	for i := range l {
		l[i] = api.Seg{Num: -99, B: "spoilt"}
	}
	for i := range wait {
		wait[i] = "spoilt"
	}
}

// states is one of each kind: nothing, some under way, as many as may be, some that wait; and some that were never made.
func states() []api.Wind {
	var l []api.Wind
	for _, n := range []int{0, 1, 3, 4, 5, 8, 9, 20} {
		for _, come := range []int{0, 1, n / 2, n} {
			l = append(l, row{texts(n), min(come, n)}.wind())
		}
	}
	return append(l, api.Wind{}, api.Wind{Base: 9, Next: 2, L: segs(1, 5), Wait: texts(9)}, api.Wind{Base: 2, Next: 9, L: segs(1, 12), Wait: texts(9)})
}

// calls is what each call tells of w: a Send, and a Told of each number in use and of some that change nothing.
func calls(w api.Wind) []func() api.Wind {
	l := []func() api.Wind{
		func() api.Wind { return Send(w, "one more") },
		func() api.Wind { return Send(w, "") },
	}
	for up := min(w.Base, w.Next) - 2; up <= max(w.Base, w.Next)+2; up++ {
		l = append(l, func() api.Wind { return Told(w, up) })
	}
	return l
}

// TestLeftAsItWas: what is handed in is as it was, its spare room too, and what is told hangs on it no more; it comes back as it was in new memory too.
func TestLeftAsItWas(t *testing.T) {
	for _, state := range states() {
		for i := range calls(state) {
			w := roomy(state)
			was := wide(w)
			call := calls(w)[i]
			first := call()
			told := copyOf(first)
			want(t, "what was handed in", wide(w), was)
			second := call()
			spoil(second)
			want(t, "what was handed in, once what is told is written over", wide(w), was)
			want(t, "what was told, once the same told again is written over", first, told)
			spoil(w)
			want(t, "what was told, once what was handed in is written over", first, told)
		}
	}
}

// TestNewIsNewMemory: what is told of New shares nothing with what New tells another time.
func TestNewIsNewMemory(t *testing.T) {
	w := New()
	w.L, w.Wait = append(w.L, api.Seg{Num: 9}), append(w.Wait, "x")
	want(t, "New", New(), api.Wind{Base: 1, Next: 1})
	first, second := Send(New(), "a"), Send(New(), "b")
	want(t, "the first", first, api.Wind{Base: 1, Next: 2, L: []api.Seg{{Num: 1, B: "a"}}})
	want(t, "the second", second, api.Wind{Base: 1, Next: 2, L: []api.Seg{{Num: 1, B: "b"}}})
}

// TestTwoWays: two that go on from one state know nothing of each other.
func TestTwoWays(t *testing.T) {
	for _, n := range []int{0, 1, 2, 3, 4, 5, 6, 7, 8, 9} {
		w := sendAll(New(), texts(n)...)
		a, b := Send(w, "a"), Send(w, "b")
		c, d := sendAll(a, "c", "d"), sendAll(a, "e", "f")
		want(t, "a", a, row{sent: append(texts(n), "a")}.wind())
		want(t, "b", b, row{sent: append(texts(n), "b")}.wind())
		want(t, "c", c, row{sent: append(texts(n), "a", "c", "d")}.wind())
		want(t, "d", d, row{sent: append(texts(n), "a", "e", "f")}.wind())
		told, then := Told(d, 1), Send(Told(d, 1), "g")
		want(t, "told", told, row{append(texts(n), "a", "e", "f"), 1}.wind())
		want(t, "then", then, row{append(texts(n), "a", "e", "f", "g"), 1}.wind())
	}
}

// places is where the texts of w lie; Go has each text of one byte once.
func places(w api.Wind) []*byte {
	var l []*byte
	for _, s := range w.L {
		if len(s.B) > 1 {
			l = append(l, unsafe.StringData(s.B))
		}
	}
	for _, s := range w.Wait {
		if len(s) > 1 {
			l = append(l, unsafe.StringData(s))
		}
	}
	return l
}

// TestTextsAreNewMemory: no text that is told lies where one that was handed in does, or another that is told.
func TestTextsAreNewMemory(t *testing.T) {
	text := strings.Repeat("text", 5)
	for n := range 12 {
		w := api.Wind{Base: 1, Next: min(n, 4) + 1}
		for i := range n {
			if i < 4 {
				w.L = append(w.L, api.Seg{Num: i + 1, B: text})
			} else {
				w.Wait = append(w.Wait, text)
			}
		}
		all := []*byte{unsafe.StringData(text)}
		for _, told := range []api.Wind{Send(w, text), Send(w, text), Told(w, 0), Told(w, 0), Told(w, 1), Told(w, 3), Told(w, 99)} {
			for _, p := range places(told) {
				if slices.Contains(all, p) {
					t.Fatalf("%d: two texts are in one place", n)
				}
				all = append(all, p)
			}
		}
	}
}

// TestSpareRoomIsNothing: what is told hangs on no spare room.
func TestSpareRoomIsNothing(t *testing.T) {
	for _, w := range states() {
		tight := copyOf(w)
		tight.L, tight.Wait = slices.Clip(tight.L), slices.Clip(tight.Wait)
		plain, wider := calls(tight), calls(roomy(w))
		for i := range plain {
			want(t, "with spare room", wider[i](), plain[i]())
		}
	}
}

// TestSameEachTime: the same states and calls tell the same, asked side by side too.
func TestSameEachTime(t *testing.T) {
	var all []func() api.Wind
	for _, w := range states() {
		all = append(all, calls(roomy(w))...)
	}
	var first []api.Wind
	for _, call := range all {
		first = append(first, call())
	}
	var group sync.WaitGroup
	for range 8 {
		group.Go(func() {
			for range 5 {
				for i, call := range all {
					if got := call(); !same(got, first[i]) {
						t.Errorf("%+v, %+v at first", got, first[i])
					}
				}
			}
		})
	}
	group.Wait()
}
