package net

import (
	"slices"
	"strings"
	"sync"
	"testing"
	"unsafe"

	"cardamom/api"
)

// roomy is l with spare room behind it, filled with something.
func roomy(l []api.Gram) []api.Gram {
	spare := []api.Gram{{From: 7, B: "spare"}, {}, {To: 9, B: "room", Turned: true}, {B: "of"}, {B: "it"}}
	return join(l, spare)[:len(l)]
}

// wide is a copy of l with its spare room as a part of it.
func wide(l []api.Gram) []api.Gram { return slices.Clone(l[:cap(l)]) }

// spoil writes over all that l has, its spare room too.
func spoil(l []api.Gram) {
	l = l[:cap(l)]
	for i := range l {
		l[i] = api.Gram{From: -99, To: -99, B: "spoilt", Turned: true}
	}
}

// lists is of each kind one: none, one, one fewer than may be, as many as may be, more.
func lists() [][]api.Gram {
	l := [][]api.Gram{{}, {turned("")}, {gram("")}}
	for _, n := range []int{1, 2, 5, 19, 20, 21} {
		l = append(l, grams(n))
	}
	return l
}

// answer is what a call tells; Comes alone tells a Gram.
type answer struct {
	l  []api.Gram
	g  api.Gram
	ok bool
}

func (a answer) copy() answer { return answer{slices.Clone(a.l), a.g, a.ok} }

func (a answer) same(b answer) bool { return a.ok == b.ok && a.g == b.g && slices.Equal(a.l, b.l) }

// calls is what each call tells of l, those that say no among them.
func calls(l []api.Gram, g api.Gram) []func() answer {
	short := func(l []api.Gram, ok bool) answer { return answer{l: l, ok: ok} }
	all := []func() answer{func() answer { return short(Send(l, g)) }}
	for _, i := range []int{-1, 0, 1, 2, len(l) / 2, len(l) - 1, len(l)} {
		all = append(all,
			func() answer { left, came, ok := Comes(l, i); return answer{left, came, ok} },
			func() answer { return short(Lost(l, i)) },
			func() answer { return short(Twice(l, i)) })
		for _, to := range []int{-1, 0, 1, 256, 257, 999} {
			all = append(all, func() answer { return short(Turned(l, i, to)) })
		}
	}
	return all
}

// TestLeftAsItWas: what is handed in is as it was, its spare room too, and what is told hangs on it no more; it comes back as it was in new memory too.
func TestLeftAsItWas(t *testing.T) {
	for _, list := range lists() {
		for i := range calls(list, gram("new")) {
			l := roomy(list)
			was := wide(l)
			call := calls(l, gram("new"))[i]
			first := call()
			told := first.copy()
			if !slices.Equal(wide(l), was) {
				t.Fatalf("what was handed in: %+v, was %+v", wide(l), was)
			}
			second := call()
			spoil(second.l)
			if !slices.Equal(wide(l), was) {
				t.Fatalf("what was handed in, once what is told is written over: %+v, was %+v", wide(l), was)
			}
			if !first.same(told) {
				t.Fatalf("what was told, once the same told again is written over: %+v, was %+v", first, told)
			}
			spoil(l)
			if !first.same(told) {
				t.Fatalf("what was told, once what was handed in is written over: %+v, was %+v", first, told)
			}
		}
	}
}

// TestTwoWays: two that go on from one list know nothing of each other.
func TestTwoWays(t *testing.T) {
	for n := range 17 {
		l := roomy(grams(n))
		a, _ := Send(l, gram("a"))
		b, _ := Send(l, gram("b"))
		c, _ := Send(a, gram("c"))
		d, _ := Twice(a, n)
		e, _ := Lost(a, n)
		f, _ := Send(e, gram("f"))
		g, _ := Turned(a, n, 1)
		want(t, "a", a, true, join(grams(n), []api.Gram{gram("a")}), true)
		want(t, "b", b, true, join(grams(n), []api.Gram{gram("b")}), true)
		want(t, "c", c, true, join(grams(n), []api.Gram{gram("a"), gram("c")}), true)
		want(t, "d", d, true, join(grams(n), []api.Gram{gram("a"), gram("a")}), true)
		want(t, "e", e, true, grams(n), true)
		want(t, "f", f, true, join(grams(n), []api.Gram{gram("f")}), true)
		want(t, "g", g, true, join(grams(n), []api.Gram{turned("`")}), true)
	}
}

// places is where the texts of an answer lie; Go has each text of one byte once.
func places(a answer) []*byte {
	var out []*byte
	for _, g := range append(slices.Clone(a.l), a.g) {
		if len(g.B) > 1 {
			out = append(out, unsafe.StringData(g.B))
		}
	}
	return out
}

// TestTextsAreNewMemory: no text that is told lies where one that was handed in does, or another that is told.
func TestTextsAreNewMemory(t *testing.T) {
	text := strings.Repeat("text", 5)
	for _, n := range []int{0, 1, 2, 7, 19, 20, 21} {
		l := slices.Repeat([]api.Gram{gram(text)}, n)
		seen := []*byte{unsafe.StringData(text)}
		for _, call := range calls(l, gram(text)) {
			told := call()
			for _, p := range places(told) {
				if slices.Contains(seen, p) {
					t.Fatalf("%d: two texts are in one place", n)
				}
				seen = append(seen, p)
			}
		}
	}
}

// TestSpareRoomIsNothing: what is told hangs on no spare room.
func TestSpareRoomIsNothing(t *testing.T) {
	for _, l := range lists() {
		plain, wider := calls(slices.Clip(slices.Clone(l)), gram("new")), calls(roomy(l), gram("new"))
		for i := range plain {
			if a, b := plain[i](), wider[i](); !a.same(b) {
				t.Fatalf("%+v, with spare room %+v", a, b)
			}
		}
	}
}

// TestSameEachTime: the same lists and calls tell the same, asked side by side too.
func TestSameEachTime(t *testing.T) {
	var all []func() answer
	for _, l := range lists() {
		all = append(all, calls(roomy(l), gram("new"))...)
	}
	var first []answer
	for _, call := range all {
		first = append(first, call())
	}
	var group sync.WaitGroup
	for range 8 {
		group.Go(func() {
			for range 5 {
				for i, call := range all {
					if got := call(); !got.same(first[i]) {
						t.Errorf("%+v, %+v at first", got, first[i])
					}
				}
			}
		})
	}
	group.Wait()
}
