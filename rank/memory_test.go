package rank

import (
	"reflect"
	"slices"
	"strings"
	"sync"
	"testing"

	"cardamom/api"
	"cardamom/goal"
)

// roomyOf is x with spare room behind each list in it, and in the lists there; something stands in it.
func roomyOf(x reflect.Value) reflect.Value {
	out := reflect.New(x.Type()).Elem()
	switch x.Kind() {
	case reflect.Slice:
		n := x.Len()
		out.Set(reflect.MakeSlice(x.Type(), n+2, n+2))
		for i := range n {
			out.Index(i).Set(roomyOf(x.Index(i)))
		}
		spoil(out.Index(n), 5)
		spoil(out.Index(n+1), 6)
		out.Set(out.Slice(0, n))
	case reflect.Array:
		for i := range x.Len() {
			out.Index(i).Set(roomyOf(x.Index(i)))
		}
	case reflect.Struct:
		for i := range x.NumField() {
			out.Field(i).Set(roomyOf(x.Field(i)))
		}
	case reflect.String:
		out.SetString(strings.Clone(x.String()))
	default:
		out.Set(x)
	}
	return out
}

func roomy[T any](x T) T { return roomyOf(reflect.ValueOf(x)).Interface().(T) }

// spoil writes over x, and all that its lists have, their spare room too.
func spoil(x reflect.Value, n int) {
	switch x.Kind() {
	case reflect.Slice:
		l := x.Slice(0, x.Cap())
		for i := range l.Len() {
			spoil(l.Index(i), n)
		}
	case reflect.Array:
		for i := range x.Len() {
			spoil(x.Index(i), n)
		}
	case reflect.Struct:
		for i := range x.NumField() {
			spoil(x.Field(i), n)
		}
	case reflect.String:
		x.SetString(strings.Repeat("!", n))
	case reflect.Bool:
		x.SetBool(true)
	default:
		x.SetInt(int64(-n))
	}
}

func spoilt[T any](x *T) { spoil(reflect.ValueOf(x).Elem(), 77) }

// openOf is x with the spare room of each list as a part of it.
func openOf(x reflect.Value) reflect.Value {
	out := reflect.New(x.Type()).Elem()
	switch x.Kind() {
	case reflect.Slice:
		l := x.Slice(0, x.Cap())
		for i := range l.Len() {
			out = reflect.Append(out, openOf(l.Index(i)))
		}
	case reflect.Struct:
		for i := range x.NumField() {
			out.Field(i).Set(openOf(x.Field(i)))
		}
	default:
		out.Set(x)
	}
	return out
}

func opened[T any](x T) T { return openOf(reflect.ValueOf(x)).Interface().(T) }

func fullMeshes(t *testing.T) []api.Mesh {
	t.Helper()
	set := does(t, busy(t), filter(1, "^a"), filter(1, "*"), filter(3, "*"))
	return append(allSeen(t), busy(t), set, rounds(set, 1), rounds(set, 2), begun(t, 1, nil, 1, 8), begun(t, 5, full(5), 4, 0), api.Mesh{})
}

// TestNothingHandedInIsChanged: what was handed in is as it was, spare room and all, and what stands in spare room is nothing to what is told.
func TestNothingHandedInIsChanged(t *testing.T) {
	ranks := map[int]int{}
	for k, plain := range fullMeshes(t) {
		m := roomy(plain)
		was := opened(m)
		for _, ask := range []func(m api.Mesh) int{Stale, Missing, Rank} {
			if got, want := ask(m), ask(plain); got != want {
				t.Fatalf("%d: %d, and with spare room %d", k, want, got)
			}
			if !reflect.DeepEqual(opened(m), was) {
				t.Fatalf("%d: what was handed in is changed", k)
			}
		}
		ranks[Rank(m)]++
	}
	if len(ranks) < 4 {
		t.Errorf("%v", ranks)
	}
}

// emptyOf is x with each list that has nothing in it there, but empty; with room, if room.
func emptyOf(x reflect.Value, room int) reflect.Value {
	out := anyOf(x)
	var walk func(x reflect.Value)
	walk = func(x reflect.Value) {
		switch x.Kind() {
		case reflect.Slice:
			if x.Len() == 0 {
				x.Set(reflect.MakeSlice(x.Type(), 0, room))
			}
			for i := range x.Len() {
				walk(x.Index(i))
			}
		case reflect.Struct:
			for i := range x.NumField() {
				walk(x.Field(i))
			}
		}
	}
	walk(out)
	return out
}

func empties[T any](x T, room int) T { return emptyOf(reflect.ValueOf(x), room).Interface().(T) }

// TestNilAndEmpty: nil and an empty list are one, in each part.
func TestNilAndEmpty(t *testing.T) {
	l := fullMeshes(t)
	for _, m := range slices.Clone(l) {
		// Some of them have nothing in their lists, and not all of them the same ones.
		for i := range m.Repls {
			m = copyOf(m)
			m.Repls[i].Held, m.Repls[i].Views[i].Seen = nil, nil
			l = append(l, m)
		}
		m.Issued = nil
		l = append(l, m)
	}
	for _, m := range l {
		for _, room := range []int{0, 3} {
			if got, want := told(empties(m, room)), told(m); got != want {
				t.Fatalf("%+v, want %+v, of\n%+v", got, want, m)
			}
		}
	}
}

// TestSharedLists: what is handed in may share lists.
func TestSharedLists(t *testing.T) {
	m := does(t, begun(t, 3, row(3), 1, 8), put(1, 1, nil, "", ""), put(1, 2, nil, "", ""))
	heads := goal.Heads(m)
	epochs := []int{1, 2, 3}
	for i := range m.Repls {
		for k := range m.Repls[i].Views {
			m.Repls[i].Views[k].Epochs = epochs
			m.Repls[i].Views[k].Seen = heads[:2]
		}
	}
	was := copyOf(m)
	want(t, "all share all", m, 0, 0)
	m.Repls[1].Views[1].Seen = heads[1:]
	want(t, "one shares some of it", m, 0, 1)
	m.Repls[1].Views[1].Seen = heads
	if !alike(m, was) {
		t.Fatalf("what was handed in is changed: %+v", m)
	}
}

// TestSameEachTime: the same input has the same answer each time, whoever else asks meanwhile.
func TestSameEachTime(t *testing.T) {
	for _, m := range append(fullMeshes(t), odd(t)...) {
		want := told(m)
		var asked sync.WaitGroup
		for range 3 {
			asked.Go(func() {
				for range 3 {
					if told(m) != want {
						t.Errorf("otherwise, of\n%+v", m)
					}
				}
			})
		}
		asked.Wait()
	}
}
