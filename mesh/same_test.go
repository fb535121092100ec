package mesh

import (
	"fmt"
	"reflect"
	"testing"

	"cardamom/api"
)

// change is one way in which one part of a mesh can be another one.
type change struct {
	where string
	do    func()
}

// changes is each of the ways in which a part of x can be another one: each number, text and yes by itself; each list one shorter, at either end, and one longer, at the end and at the beginning.
func changes(x reflect.Value, where string) []change {
	switch x.Kind() {
	case reflect.Int:
		return []change{{where + " more", func() { x.SetInt(x.Int() + 1) }}, {where + " less", func() { x.SetInt(x.Int() - 1) }}}
	case reflect.Bool:
		return []change{{where, func() { x.SetBool(!x.Bool()) }}}
	case reflect.String:
		l := []change{{where + " longer", func() { x.SetString(x.String() + "x") }}}
		if s := x.String(); s != "" {
			l = append(l, change{where + " shorter", func() { x.SetString(s[1:]) }}, change{where + " other", func() { x.SetString(s[:len(s)-1] + "\x01") }})
		}
		return l
	case reflect.Array:
		return parts(x, where)
	case reflect.Slice:
		return append(parts(x, where), lengths(x, where)...)
	}
	var l []change
	for i := range x.NumField() {
		l = append(l, changes(x.Field(i), where+"."+x.Type().Field(i).Name)...)
	}
	return l
}

func parts(x reflect.Value, where string) []change {
	var l []change
	for i := range x.Len() {
		l = append(l, changes(x.Index(i), fmt.Sprintf("%s[%d]", where, i))...)
	}
	return l
}

func lengths(x reflect.Value, where string) []change {
	none := reflect.Zero(x.Type().Elem())
	l := []change{
		{where + " one more", func() { x.Set(reflect.Append(x, none)) }},
		{where + " one more ahead", func() { x.Set(reflect.AppendSlice(reflect.Append(reflect.Zero(x.Type()), none), x)) }},
	}
	if n := x.Len(); n > 0 {
		l = append(l,
			change{where + " the last one twice", func() { x.Set(reflect.Append(x, x.Index(n-1))) }},
			change{where + " one less", func() { x.Set(x.Slice(0, n-1)) }},
			change{where + " one less ahead", func() { x.Set(x.Slice(1, n)) }},
			change{where + " none", func() { x.Set(x.Slice(0, 0)) }})
	}
	return l
}

// TestSame: whether both are alike in each part: each number, each edge, each part of each replica, datagram and version, each list.
func TestSame(t *testing.T) {
	m := busy(t)
	count := len(changes(reflect.ValueOf(&m).Elem(), "m"))
	if count < 400 {
		t.Fatalf("%d changes", count)
	}
	for i := range count {
		a, b := copyOf(m), copyOf(m)
		if !Same(a, b) || !Same(b, a) {
			t.Fatal("a copy is not the same")
		}
		c := changes(reflect.ValueOf(&b).Elem(), "m")[i]
		c.do()
		if Same(a, b) || Same(b, a) {
			t.Errorf("%s: the same", c.where)
		}
		if !Same(b, copyOf(b)) || !alike(a, m) {
			t.Errorf("%s: its copy is not the same", c.where)
		}
	}
}

// TestSameOfTwoKinds: two lists in each other's place, or what is alike in one part alone, is not the same.
func TestSameOfTwoKinds(t *testing.T) {
	m := busy(t)
	other := copyOf(m)
	other.Repls[0], other.Repls[1] = other.Repls[1], other.Repls[0]
	if Same(m, other) {
		t.Error("replicas in each other's place")
	}
	other = copyOf(m)
	other.Issued[0], other.Issued[1] = other.Issued[1], other.Issued[0]
	if Same(m, other) {
		t.Error("versions in each other's place")
	}
	other = copyOf(m)
	other.Fly[0], other.Fly[1] = other.Fly[1], other.Fly[0]
	if Same(m, other) {
		t.Error("datagrams in each other's place")
	}
	other = copyOf(m)
	other.Edges[0], other.Edges[1] = other.Edges[1], other.Edges[0]
	if Same(m, other) {
		t.Error("edges in each other's place")
	}
	for i, a := range states(t) {
		for j, b := range states(t) {
			if Same(a, b) != (i == j) {
				t.Errorf("%d and %d: %v", i, j, Same(a, b))
			}
		}
	}
}

// states is meshes of which no two are alike.
func states(t *testing.T) []api.Mesh {
	t.Helper()
	l := []api.Mesh{{}}
	for size := 1; size <= api.MaxRepl; size++ {
		m := begun(t, size, row(size), 1, 8)
		l = append(l, m, begun(t, size, row(size), 2, 8), begun(t, size, row(size), 1, 7))
		if size > 2 {
			l = append(l, begun(t, size, full(size), 1, 8))
		}
		l = append(l, does(t, m, put(1, 1, nil, "", "")), does(t, m, put(size, 2, nil, "", "")), does(t, m, put(1, 1, nil, "", ""), remove(1, 1)), does(t, m, filter(1, "*")), does(t, m, filter(size, "^a")))
		if size > 1 {
			m = does(t, m, tells(1, 2))
			l = append(l, m, does(t, m, twice(0)), does(t, m, turn(0, 1)), does(t, m, turn(0, 2)), does(t, m, come(0)), does(t, m, twice(0), turn(1, 1)), does(t, m, twice(0), turn(0, 1)))
		}
	}
	return l
}
