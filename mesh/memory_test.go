package mesh

import (
	"reflect"
	"strings"
	"sync"
	"testing"
	"unsafe"

	"cardamom/api"
)

// roomyOf is x with spare room behind each list in it, and in the lists there; something stands in it.
func roomyOf(x reflect.Value) reflect.Value {
	out := reflect.New(x.Type()).Elem()
	switch x.Kind() {
	case reflect.Slice:
		n := x.Len()
		out.Set(reflect.MakeSlice(x.Type(), n+2, n+2))
		for i := range n {
			out.Index(i).Set(roomyOf(x.Index(i)))
		}
		spoil(out.Index(n), 5)
		spoil(out.Index(n+1), 6)
		out.Set(out.Slice(0, n))
	case reflect.Array:
		for i := range x.Len() {
			out.Index(i).Set(roomyOf(x.Index(i)))
		}
	case reflect.Struct:
		for i := range x.NumField() {
			out.Field(i).Set(roomyOf(x.Field(i)))
		}
	case reflect.String:
		out.SetString(strings.Clone(x.String()))
	default:
		out.Set(x)
	}
	return out
}

func roomy[T any](x T) T { return roomyOf(reflect.ValueOf(x)).Interface().(T) }

// spoil writes over x, and all that its lists have, their spare room too.
func spoil(x reflect.Value, n int) {
	switch x.Kind() {
	case reflect.Slice:
		l := x.Slice(0, x.Cap())
		for i := range l.Len() {
			spoil(l.Index(i), n)
		}
	case reflect.Array:
		for i := range x.Len() {
			spoil(x.Index(i), n)
		}
	case reflect.Struct:
		for i := range x.NumField() {
			spoil(x.Field(i), n)
		}
	case reflect.String:
		x.SetString(strings.Repeat("!", n))
	case reflect.Bool:
		x.SetBool(true)
	default:
		x.SetInt(int64(-n))
	}
}

func spoilt[T any](x *T) { spoil(reflect.ValueOf(x).Elem(), 77) }

// openOf is x with the spare room of each list as a part of it.
func openOf(x reflect.Value) reflect.Value {
	out := reflect.New(x.Type()).Elem()
	switch x.Kind() {
	case reflect.Slice:
		l := x.Slice(0, x.Cap())
		for i := range l.Len() {
			out = reflect.Append(out, openOf(l.Index(i)))
		}
	case reflect.Struct:
		for i := range x.NumField() {
			out.Field(i).Set(openOf(x.Field(i)))
		}
	default:
		out.Set(x)
	}
	return out
}

func opened[T any](x T) T { return openOf(reflect.ValueOf(x)).Interface().(T) }

// place is where a list, with its spare room, or a text is in memory.
type place struct {
	from, to uintptr
	text     bool
}

// places is where all lists and texts of x are.
func places(x reflect.Value) []place {
	var l []place
	switch x.Kind() {
	case reflect.Slice:
		if n := uintptr(x.Cap()) * x.Type().Elem().Size(); n > 0 {
			l = append(l, place{uintptr(x.UnsafePointer()), uintptr(x.UnsafePointer()) + n, false})
		}
		fallthrough
	case reflect.Array:
		for i := range x.Len() {
			l = append(l, places(x.Index(i))...)
		}
	case reflect.Struct:
		for i := range x.NumField() {
			l = append(l, places(x.Field(i))...)
		}
	case reflect.String:
		if s := x.String(); s != "" {
			at := uintptr(unsafe.Pointer(unsafe.StringData(s)))
			l = append(l, place{at, at + uintptr(len(s)), true})
		}
	}
	return l
}

// wantApart asks that no list or text of a is where one of b is.
func wantApart(t *testing.T, what string, a, b any) {
	t.Helper()
	for _, p := range places(reflect.ValueOf(a)) {
		for _, q := range places(reflect.ValueOf(b)) {
			if p.from < q.to && q.from < p.to {
				t.Fatalf("%s: they share memory (texts: %v, %v)", what, p.text, q.text)
			}
		}
	}
}

// wantOwnLists asks that no two lists of m are in one place.
func wantOwnLists(t *testing.T, what string, m api.Mesh) {
	t.Helper()
	l := places(reflect.ValueOf(m))
	for i, p := range l {
		for _, q := range l[:i] {
			if !p.text && !q.text && p.from < q.to && q.from < p.to {
				t.Fatalf("%s: two lists of it share memory", what)
			}
		}
	}
}

// everyStep is steps of each kind, those that can be done of busy and of laden, and those that can't.
func everyStep() []api.Step {
	attrs := []api.Attr{{Key: 1, Val: 5}, {Key: 2, Val: 6}}
	l := []api.Step{
		{}, {Kind: 9, R: 1, To: 2, Attrs: attrs, Tag: "abc", Text: "text"}, {Kind: 4, R: 1, To: 2, Attrs: attrs, Tag: "abc", Text: "text"}, {Kind: 5, Attrs: attrs, Tag: "abc", Text: "text"},
		put(1, 5, attrs, "abc", "longer text"), put(2, 1, attrs, "abc", "longer text"), put(2, 7, attrs, "abc", "longer text"), put(3, 4, nil, "abc", ""), put(4, 1, attrs, "abc", "x"),
		remove(1, 1), remove(2, 1), remove(1, 5), remove(9, 1), filter(1, "^ab|^longer"), filter(3, "*"), filter(1, "@9"), filter(0, "*"), filter(2, "^zzzzzz"),
		tells(1, 2), tells(2, 3), tells(3, 2), tells(1, 3), tells(2, 9),
	}
	for i := range 5 {
		l = append(l, come(i), lose(i), twice(i), turn(i, 256+9), turn(i, 0))
	}
	return append(l, come(20), lose(-1))
}

func fullMeshes(t *testing.T) []api.Mesh {
	t.Helper()
	return []api.Mesh{busy(t), laden(t, 4), laden(t, api.MaxFly), begun(t, 1, nil, 1, 8), Round(busy(t)), {}}
}

// TestNothingHandedInIsChangedOrKept: whatever is done, or refused: what was handed in is as it was, spare room and all, and no part of it is in what is told.
func TestNothingHandedInIsChangedOrKept(t *testing.T) {
	for k, plain := range fullMeshes(t) {
		for _, plainStep := range everyStep() {
			m, s := roomy(plain), roomy(plainStep)
			was, wasStep := opened(m), opened(s)
			got, e := Do(m, s)
			once, e1 := Do(plain, plainStep)
			if e != e1 || !alike(got, once) {
				t.Fatalf("%d, %+v: %d, %+v\nand with spare room %d, %+v", k, plainStep, e1, once, e, got)
			}
			if !reflect.DeepEqual(opened(m), was) || !reflect.DeepEqual(opened(s), wasStep) {
				t.Fatalf("%d, %+v: what was handed in is changed", k, plainStep)
			}
			wantApart(t, "what is told and what was handed in", got, m)
			wantApart(t, "what is told and the step", got, s)
			wantOwnLists(t, "what is told", got)
			again, _ := Do(m, s)
			wantApart(t, "two answers", got, again)
			spoilt(&got)
			if !reflect.DeepEqual(opened(m), was) || !alike(again, once) {
				t.Fatalf("%d, %+v: it is changed through what was told", k, plainStep)
			}
			spoilt(&m)
			spoilt(&s)
			if !alike(again, once) {
				t.Fatalf("%d, %+v: what is told is changed through what was handed in", k, plainStep)
			}
		}
	}
}

// TestRoundIsNewMemory: so is a Round, and Same changes nothing.
func TestRoundIsNewMemory(t *testing.T) {
	for k, plain := range fullMeshes(t) {
		m, other := roomy(plain), roomy(plain)
		was := opened(m)
		got, again := Round(m), Round(m)
		if !Same(m, other) || !Same(other, m) || !Same(m, plain) || Same(m, laden(t, 5)) || Same(laden(t, 5), m) {
			t.Fatalf("%d: Same", k)
		}
		if !reflect.DeepEqual(opened(m), was) || !reflect.DeepEqual(opened(other), was) {
			t.Fatalf("%d: what was handed in is changed", k)
		}
		once := Round(plain)
		wantMesh(t, "a Round of one with spare room", got, once)
		wantApart(t, "a Round and what was handed in", got, m)
		wantApart(t, "two Rounds", got, again)
		wantOwnLists(t, "a Round", got)
		spoilt(&got)
		spoilt(&m)
		wantMesh(t, "a Round behind all this", again, once)
	}
}

// TestNewIsNewMemory: so is what New tells; the edges that were handed in are as they were.
func TestNewIsNewMemory(t *testing.T) {
	for size := 1; size <= api.MaxRepl; size++ {
		for _, plain := range shapes(size) {
			edges := roomy(plain)
			was := opened(edges)
			a := begun(t, size, edges, 1, 8)
			b := begun(t, size, edges, 1, 8)
			if !reflect.DeepEqual(opened(edges), was) {
				t.Fatalf("%v: changed to %v", was, opened(edges))
			}
			wantApart(t, "New and its edges", a, edges)
			wantOwnLists(t, "New", a)
			spoilt(&a)
			spoilt(&edges)
			wantMesh(t, "New behind all this", b, begun(t, size, plain, 1, 8))
			if _, ok := New(size, was, 1, 9); ok {
				t.Fatal("a quota of 9")
			}
		}
	}
}

// emptyOf is x with each list that has nothing in it there, but empty; with room, if room.
func emptyOf(x reflect.Value, room int) reflect.Value {
	out := anyOf(x)
	var walk func(x reflect.Value)
	walk = func(x reflect.Value) {
		switch x.Kind() {
		case reflect.Slice:
			if x.Len() == 0 {
				x.Set(reflect.MakeSlice(x.Type(), 0, room))
			}
			for i := range x.Len() {
				walk(x.Index(i))
			}
		case reflect.Struct:
			for i := range x.NumField() {
				walk(x.Field(i))
			}
		}
	}
	walk(out)
	return out
}

func empties[T any](x T, room int) T { return emptyOf(reflect.ValueOf(x), room).Interface().(T) }

// TestNilAndEmpty: nil and an empty list are one, in each part.
func TestNilAndEmpty(t *testing.T) {
	for _, m := range append(fullMeshes(t), laden(t, 0), begun(t, 5, full(5), 4, 0)) {
		for _, room := range []int{0, 3} {
			none := empties(m, room)
			if !Same(m, none) || !Same(none, m) {
				t.Fatal("not the same")
			}
			wantMesh(t, "a Round of empty lists", Round(none), Round(m))
			for _, s := range everyStep() {
				want, e := Do(m, s)
				wantDo(t, none, s, want, e)
				wantDo(t, none, empties(s, room), want, e)
				wantDo(t, m, empties(s, room), want, e)
			}
		}
	}
	a, b := begun(t, 1, nil, 1, 0), begun(t, 1, make([][2]int, 0, 9), 1, 0)
	if !Same(a, b) {
		t.Error("New of no edges")
	}
}

// TestSameEachTime: the same input has the same answer each time, whoever else asks meanwhile.
func TestSameEachTime(t *testing.T) {
	for _, m := range fullMeshes(t) {
		for _, s := range everyStep() {
			want, e := Do(m, s)
			round := Round(m)
			var all sync.WaitGroup
			for range 3 {
				all.Go(func() {
					got, gotE := Do(m, s)
					if gotE != e || !Same(got, want) || !Same(Round(m), round) {
						t.Errorf("%+v: otherwise", s)
					}
				})
			}
			all.Wait()
		}
	}
}

// TestSharedLists: what is handed in may share lists; what is told may not.
func TestSharedLists(t *testing.T) {
	m := busy(t)
	heads, attrs, epochs := m.Repls[1].Views[1].Seen, []api.Attr{{Key: 1, Val: 2}}, []int{1, 1, 1}
	for i := range m.Repls {
		for j := range m.Repls[i].Held {
			m.Repls[i].Held[j].Attrs = attrs
		}
		for j := range m.Repls[i].Views {
			m.Repls[i].Views[j].Seen, m.Repls[i].Views[j].Epochs = heads, epochs
		}
	}
	for i := range m.Issued {
		m.Issued[i].Attrs = attrs
	}
	m.Repls[2].Held = m.Repls[1].Held
	was := copyOf(m)
	for _, s := range everyStep() {
		got, _ := Do(m, s)
		wantOwnLists(t, "what is told of shared lists", got)
		spoilt(&got)
		wantMesh(t, "what was handed in", m, was)
	}
	got := Round(m)
	wantOwnLists(t, "a Round of shared lists", got)
	spoilt(&got)
	wantMesh(t, "what was handed in", m, was)
}
