package goal

import (
	"reflect"
	"strings"
	"sync"
	"testing"
	"unsafe"

	"cardamom/api"
)

// roomyOf is x with spare room behind each list in it, and in the lists there; something stands in it.
func roomyOf(x reflect.Value) reflect.Value {
	out := reflect.New(x.Type()).Elem()
	switch x.Kind() {
	case reflect.Slice:
		n := x.Len()
		out.Set(reflect.MakeSlice(x.Type(), n+2, n+2))
		for i := range n {
			out.Index(i).Set(roomyOf(x.Index(i)))
		}
		spoil(out.Index(n), 5)
		spoil(out.Index(n+1), 6)
		out.Set(out.Slice(0, n))
	case reflect.Array:
		for i := range x.Len() {
			out.Index(i).Set(roomyOf(x.Index(i)))
		}
	case reflect.Struct:
		for i := range x.NumField() {
			out.Field(i).Set(roomyOf(x.Field(i)))
		}
	case reflect.String:
		out.SetString(strings.Clone(x.String()))
	default:
		out.Set(x)
	}
	return out
}

func roomy[T any](x T) T { return roomyOf(reflect.ValueOf(x)).Interface().(T) }

// spoil writes over x, and all that its lists have, their spare room too.
func spoil(x reflect.Value, n int) {
	switch x.Kind() {
	case reflect.Slice:
		l := x.Slice(0, x.Cap())
		for i := range l.Len() {
			spoil(l.Index(i), n)
		}
	case reflect.Array:
		for i := range x.Len() {
			spoil(x.Index(i), n)
		}
	case reflect.Struct:
		for i := range x.NumField() {
			spoil(x.Field(i), n)
		}
	case reflect.String:
		x.SetString(strings.Repeat("!", n))
	case reflect.Bool:
		x.SetBool(true)
	default:
		x.SetInt(int64(-n))
	}
}

func spoilt[T any](x *T) { spoil(reflect.ValueOf(x).Elem(), 77) }

// openOf is x with the spare room of each list as a part of it.
func openOf(x reflect.Value) reflect.Value {
	out := reflect.New(x.Type()).Elem()
	switch x.Kind() {
	case reflect.Slice:
		l := x.Slice(0, x.Cap())
		for i := range l.Len() {
			out = reflect.Append(out, openOf(l.Index(i)))
		}
	case reflect.Struct:
		for i := range x.NumField() {
			out.Field(i).Set(openOf(x.Field(i)))
		}
	default:
		out.Set(x)
	}
	return out
}

func opened[T any](x T) T { return openOf(reflect.ValueOf(x)).Interface().(T) }

// place is where a list, with its spare room, or a text is in memory.
type place struct {
	from, to uintptr
	text     bool
}

// places is where all lists and texts of x are.
func places(x reflect.Value) []place {
	var l []place
	switch x.Kind() {
	case reflect.Slice:
		if n := uintptr(x.Cap()) * x.Type().Elem().Size(); n > 0 {
			l = append(l, place{uintptr(x.UnsafePointer()), uintptr(x.UnsafePointer()) + n, false})
		}
		fallthrough
	case reflect.Array:
		for i := range x.Len() {
			l = append(l, places(x.Index(i))...)
		}
	case reflect.Struct:
		for i := range x.NumField() {
			l = append(l, places(x.Field(i))...)
		}
	case reflect.String:
		if s := x.String(); s != "" {
			at := uintptr(unsafe.Pointer(unsafe.StringData(s)))
			l = append(l, place{at, at + uintptr(len(s)), true})
		}
	}
	return l
}

// wantApart asks that no list or text of a is where one of b is.
func wantApart(t *testing.T, what string, a, b any) {
	t.Helper()
	for _, p := range places(reflect.ValueOf(a)) {
		for _, q := range places(reflect.ValueOf(b)) {
			if p.from < q.to && q.from < p.to {
				t.Fatalf("%s: they share memory (texts: %v, %v)", what, p.text, q.text)
			}
		}
	}
}

// wantOwnLists asks that no two lists of m are in one place.
func wantOwnLists(t *testing.T, what string, m any) {
	t.Helper()
	l := places(reflect.ValueOf(m))
	for i, p := range l {
		for _, q := range l[:i] {
			if !p.text && !q.text && p.from < q.to && q.from < p.to {
				t.Fatalf("%s: two lists of it share memory", what)
			}
		}
	}
}

func fullMeshes(t *testing.T) []api.Mesh {
	t.Helper()
	return append(finished(t)[2:6], busy(t), laden(t), rounds(laden(t), 2), begun(t, 1, nil, 1, 8), begun(t, 5, full(5), 4, 0), api.Mesh{})
}

// wantOwn asks that no two lists of one answer are in one place, and none is where m has one.
func wantOwn(t *testing.T, m api.Mesh, a all) {
	t.Helper()
	for i := range a.target {
		for _, l := range [][]api.Version{a.target[i], a.store[i]} {
			wantApart(t, "what is told and what was handed in", l, m)
			wantOwnLists(t, "what is told", l)
		}
	}
	wantApart(t, "heads and what was handed in", a.heads, m)
}

// TestNothingHandedInIsChangedOrKept: what was handed in is as it was, spare room and all, and no part of it is in what is told; no two answers share any.
func TestNothingHandedInIsChangedOrKept(t *testing.T) {
	for k, plain := range fullMeshes(t) {
		m := roomy(plain)
		was := opened(m)
		got := told(m)
		if want := told(plain); !same(got, want) {
			t.Fatalf("%d: %+v, and with spare room\n%+v", k, want, got)
		}
		if !reflect.DeepEqual(opened(m), was) {
			t.Fatalf("%d: what was handed in is changed", k)
		}
		wantOwn(t, m, got)
		again := told(m)
		for i := range got.target {
			wantApart(t, "two Targets", got.target[i], again.target[i])
			wantApart(t, "two Stores", got.store[i], again.store[i])
			wantApart(t, "a Target and a Store", got.target[i], got.store[i])
			for n := range i {
				wantApart(t, "Targets of two", got.target[i], got.target[n])
				wantApart(t, "Stores of two", got.store[i], got.store[n])
			}
			spoilt(&got.target[i])
			spoilt(&got.store[i])
		}
		wantApart(t, "two rows of heads", got.heads, again.heads)
		spoilt(&got.heads)
		if !reflect.DeepEqual(opened(m), was) || !same(again, told(plain)) {
			t.Fatalf("%d: it is changed through what was told", k)
		}
		spoilt(&m)
		if !same(again, told(plain)) {
			t.Fatalf("%d: what is told is changed through what was handed in", k)
		}
	}
}

// emptyOf is x with each list that has nothing in it there, but empty; with room, if room.
func emptyOf(x reflect.Value, room int) reflect.Value {
	out := anyOf(x)
	var walk func(x reflect.Value)
	walk = func(x reflect.Value) {
		switch x.Kind() {
		case reflect.Slice:
			if x.Len() == 0 {
				x.Set(reflect.MakeSlice(x.Type(), 0, room))
			}
			for i := range x.Len() {
				walk(x.Index(i))
			}
		case reflect.Struct:
			for i := range x.NumField() {
				walk(x.Field(i))
			}
		}
	}
	walk(out)
	return out
}

func empties[T any](x T, room int) T { return emptyOf(reflect.ValueOf(x), room).Interface().(T) }

// TestNilAndEmpty: nil and an empty list are one, in each part.
func TestNilAndEmpty(t *testing.T) {
	for _, m := range append(fullMeshes(t), finished(t)...) {
		for _, room := range []int{0, 3} {
			if got, want := told(empties(m, room)), told(m); !same(got, want) {
				t.Fatalf("%+v, want\n%+v", got, want)
			}
		}
		// What is held is of no other parts than what was written, be they nil or empty.
		half := copyOf(m)
		for i := range half.Repls {
			half.Repls[i] = empties(half.Repls[i], 0)
		}
		if got, want := told(half), told(m); !same(got, want) {
			t.Fatalf("%+v, want\n%+v", got, want)
		}
	}
}

// TestSharedLists: what is handed in may share lists; what is told may not.
func TestSharedLists(t *testing.T) {
	m := laden(t)
	attrs := []api.Attr{{Key: 1, Val: 5}}
	for i := range m.Issued {
		m.Issued[i].Attrs = attrs
	}
	for i := range m.Repls {
		m.Repls[i].Views[i].Filter = "*"
		m.Repls[i].Held = m.Issued[2*i : 2*i+3]
	}
	was := copyOf(m)
	got := told(m)
	wantOwn(t, m, got)
	for i := range got.target {
		spoilt(&got.target[i])
		spoilt(&got.store[i])
	}
	if !alike(m, was) {
		t.Fatalf("what was handed in is changed: %+v", m)
	}
}

// TestSameEachTime: the same input has the same answer each time, whoever else asks meanwhile.
func TestSameEachTime(t *testing.T) {
	for _, m := range append(fullMeshes(t), odd(t)...) {
		want := told(m)
		var asked sync.WaitGroup
		for range 3 {
			asked.Go(func() {
				for range 3 {
					if !same(told(m), want) {
						t.Errorf("otherwise, of\n%+v", m)
					}
				}
			})
		}
		asked.Wait()
	}
}
