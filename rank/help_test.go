package rank

import (
	"math"
	"reflect"
	"slices"
	"strings"
	"testing"

	"cardamom/api"
	"cardamom/mesh"
)

// chance tells numbers below n that look like chance and are the same each time.
type chance uint64

func (c *chance) below(n int) int {
	*c = *c*6364136223846793005 + 1442695040888963407
	return int(uint64(*c) >> 33 % uint64(n))
}

func (c *chance) of(l ...int) int { return l[c.below(len(l))] }

// anyOf is l with each list and text in it in a place of its own; empty lists are nil.
func anyOf(x reflect.Value) reflect.Value {
	out := reflect.New(x.Type()).Elem()
	switch x.Kind() {
	case reflect.Slice:
		if x.Len() > 0 {
			out.Set(reflect.MakeSlice(x.Type(), x.Len(), x.Len()))
		}
		fallthrough
	case reflect.Array:
		for i := range x.Len() {
			out.Index(i).Set(anyOf(x.Index(i)))
		}
	case reflect.Struct:
		for i := range x.NumField() {
			out.Field(i).Set(anyOf(x.Field(i)))
		}
	case reflect.String:
		out.SetString(strings.Clone(x.String()))
	default:
		out.Set(x)
	}
	return out
}

// copyOf is x in memory of its own; empty lists are nil.
func copyOf[T any](x T) T { return anyOf(reflect.ValueOf(x)).Interface().(T) }

// alike tells whether a and b are so in all their parts; nil and an empty list are.
func alike[T any](a, b T) bool { return bothAlike(reflect.ValueOf(a), reflect.ValueOf(b)) }

func bothAlike(a, b reflect.Value) bool {
	switch a.Kind() {
	case reflect.Slice, reflect.Array:
		if a.Len() != b.Len() {
			return false
		}
		for i := range a.Len() {
			if !bothAlike(a.Index(i), b.Index(i)) {
				return false
			}
		}
		return true
	case reflect.Struct:
		for i := range a.NumField() {
			if !bothAlike(a.Field(i), b.Field(i)) {
				return false
			}
		}
		return true
	}
	return a.Equal(b)
}

// does does steps, each of which has to go well.
func does(t *testing.T, m api.Mesh, l ...api.Step) api.Mesh {
	t.Helper()
	for i, s := range l {
		next, e := mesh.Do(m, s)
		if e != api.OK {
			t.Fatalf("number %d, %+v: %d", i, s, e)
		}
		m = next
	}
	return m
}

func begun(t *testing.T, size int, edges [][2]int, batch, quota int) api.Mesh {
	t.Helper()
	m, ok := mesh.New(size, edges, batch, quota)
	if !ok {
		t.Fatalf("New(%d, %v, %d, %d): no", size, edges, batch, quota)
	}
	return m
}

// rounds is m behind n Rounds.
func rounds(m api.Mesh, n int) api.Mesh {
	for range n {
		m = mesh.Round(m)
	}
	return m
}

func put(r, item int, attrs []api.Attr, tag, body string) api.Step {
	return api.Step{Kind: api.StepPut, R: r, Item: item, Attrs: attrs, Tag: tag, Text: body}
}

func remove(r, item int) api.Step { return api.Step{Kind: api.StepDelete, R: r, Item: item} }

func filter(r int, text string) api.Step { return api.Step{Kind: api.StepFilter, R: r, Text: text} }

func tells(r, to int) api.Step { return api.Step{Kind: api.StepTell, R: r, To: to} }

func come(i int) api.Step { return api.Step{Kind: api.StepComes, I: i} }

func lose(i int) api.Step { return api.Step{Kind: api.StepLost, I: i} }

func twice(i int) api.Step { return api.Step{Kind: api.StepTwice, I: i} }

func turn(i, to int) api.Step { return api.Step{Kind: api.StepTurned, I: i, To: to} }

// row is replicas in a row.
func row(size int) [][2]int {
	var l [][2]int
	for i := 1; i < size; i++ {
		l = append(l, [2]int{i, i + 1})
	}
	return l
}

// ring is replicas in a ring.
func ring(size int) [][2]int {
	l := row(size)
	if size > 2 {
		l = slices.Insert(l, 1, [2]int{1, size})
	}
	return l
}

// star is replicas each beside the one in the middle.
func star(size, middle int) [][2]int {
	var l [][2]int
	for i := 1; i <= size; i++ {
		if i != middle {
			l = append(l, [2]int{min(i, middle), max(i, middle)})
		}
	}
	return l
}

// full is replicas each beside each.
func full(size int) [][2]int {
	var l [][2]int
	for i := 1; i <= size; i++ {
		for j := i + 1; j <= size; j++ {
			l = append(l, [2]int{i, j})
		}
	}
	return l
}

// shapes is the ways in which so many may be beside one another, some of them.
func shapes(size int) [][][2]int {
	return [][][2]int{row(size), ring(size), star(size, 1), star(size, size), full(size)}
}

// ends is numbers at either end of what there is, and the small ones.
func ends() []int {
	return []int{math.MinInt, math.MinInt + 1, math.MinInt32 - 1, math.MinInt32, -257, -256, -6, -2, -1, 0, 1, 2, 3, 4, 5, 6, 7, 8, 256, math.MaxInt32, math.MaxUint32, math.MaxInt - 1, math.MaxInt}
}

// stampOf is L, R, N.
func stampOf(l, r, n int) api.Stamp { return api.Stamp{L: l, R: r, N: n} }

// versionOf is a version with no attributes.
func versionOf(item int, s api.Stamp, tag, body string) api.Version {
	return api.Version{Item: item, S: s, Tag: tag, Body: body}
}

// wantVersions asks for all parts of all of these, in this order.
func wantVersions(t *testing.T, what string, got []api.Version, want ...api.Version) {
	t.Helper()
	if !alike(got, want) {
		t.Fatalf("%s:\n%+v, want\n%+v", what, got, want)
	}
}

func wantHeads(t *testing.T, what string, got []api.Head, want ...api.Head) {
	t.Helper()
	if !slices.Equal(got, want) {
		t.Fatalf("%s: %+v, want %+v", what, got, want)
	}
}

// busy is three in a row with something in each part: what is held in store and in custody, seen, set, written and over-written, dead, and on its way.
func busy(t *testing.T) api.Mesh {
	t.Helper()
	m := begun(t, 3, row(3), 2, 3)
	return does(t, m,
		put(1, 1, []api.Attr{{Key: 0, Val: 5}, {Key: 2, Val: 99}}, "ab", "first"), put(1, 2, nil, "b", "second"), put(3, 4, []api.Attr{{Key: 1, Val: 7}}, "", "third"),
		tells(1, 2), come(0), filter(2, "^a | @1:3-9"), put(2, 1, []api.Attr{{Key: 1, Val: 4}}, "abc", "again"), tells(2, 3), come(0), tells(3, 2), come(0),
		remove(3, 4), filter(3, "!^b"), tells(3, 2), tells(2, 1), twice(0), turn(1, 7*256+129), put(1, 6, nil, "x", "late"), tells(1, 2))
}
