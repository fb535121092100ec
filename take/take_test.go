package take

import (
	"math"
	"slices"
	"strings"
	"testing"

	"cardamom/api"
	"cardamom/repl"
)

func attr(key, val int) api.Attr { return api.Attr{Key: key, Val: val} }

func stampOf(l, r, n int) api.Stamp { return api.Stamp{L: l, R: r, N: n} }

func head(item, l, r, n int) api.Head { return api.Head{Item: item, S: stampOf(l, r, n)} }

func version(item, l, r, n int, tag string) api.Version {
	return api.Version{Item: item, S: stampOf(l, r, n), Tag: tag}
}

// alike, alikeView, alikeRepl and alikeGossip are apart from the program's, so that a fault there is not hidden here.
func alike(a, b api.Version) bool {
	return a.Item == b.Item && a.S == b.S && a.Dead == b.Dead && slices.Equal(a.Attrs, b.Attrs) && a.Tag == b.Tag && a.Body == b.Body
}

func alikeView(a, b api.View) bool {
	return a.R == b.R && a.Rev == b.Rev && a.Filter == b.Filter && slices.Equal(a.Seen, b.Seen) && slices.Equal(a.Epochs, b.Epochs)
}

func alikeRepl(a, b api.Repl) bool {
	return a.ID == b.ID && a.Size == b.Size && a.L == b.L && a.N == b.N && a.Quota == b.Quota &&
		slices.EqualFunc(a.Held, b.Held, alike) && slices.EqualFunc(a.Views, b.Views, alikeView)
}

func alikeGossip(a, b api.Gossip) bool {
	return a.From == b.From && a.To == b.To && slices.EqualFunc(a.Views, b.Views, alikeView) && slices.EqualFunc(a.Batch, b.Batch, alike)
}

func copyOfVersions(l []api.Version) []api.Version {
	l = slices.Clone(l)
	for i := range l {
		l[i].Attrs = slices.Clone(l[i].Attrs)
	}
	return l
}

func copyOfViews(l []api.View) []api.View {
	l = slices.Clone(l)
	for i := range l {
		l[i].Seen, l[i].Epochs = slices.Clone(l[i].Seen), slices.Clone(l[i].Epochs)
	}
	return l
}

func copyOf(r api.Repl) api.Repl {
	r.Held, r.Views = copyOfVersions(r.Held), copyOfViews(r.Views)
	return r
}

func copyOfGossip(g api.Gossip) api.Gossip {
	g.Views, g.Batch = copyOfViews(g.Views), copyOfVersions(g.Batch)
	return g
}

func begun(t *testing.T, id, size, quota int) api.Repl {
	t.Helper()
	r, ok := repl.New(id, size, quota)
	if !ok {
		t.Fatalf("repl.New(%d, %d, %d): no", id, size, quota)
	}
	return r
}

func mustPut(t *testing.T, r api.Repl, item int, tag string) api.Repl {
	t.Helper()
	r, _, e := repl.Put(r, item, nil, tag, "body")
	if e != api.OK {
		t.Fatalf("repl.Put of %d, %q: %d", item, tag, e)
	}
	return r
}

func mustFilter(t *testing.T, r api.Repl, text string) api.Repl {
	t.Helper()
	r, e := repl.SetFilter(r, text)
	if e != api.OK {
		t.Fatalf("repl.SetFilter to %q: %d", text, e)
	}
	return r
}

// amid is replica 2 of 3: 1 is in store; 3, and 5, which is Dead, in custody; 4 was seen, and is held no more; of 2 and 6 nothing was seen. There is room for one in custody. It knows of nothing in custody that all have seen it.
func amid() api.Repl {
	return api.Repl{
		ID: 2, Size: 3, L: 11, N: 6, Quota: 3,
		Held: []api.Version{
			{Item: 1, S: stampOf(3, 2, 1), Attrs: []api.Attr{attr(1, 5)}, Tag: "ab", Body: "one"},
			{Item: 3, S: stampOf(5, 2, 2), Tag: "b", Body: "\x00\xff"},
			{Item: 5, S: stampOf(8, 2, 3), Dead: true, Attrs: []api.Attr{attr(1, 5), attr(2, 0)}, Tag: "x"},
		},
		Views: []api.View{
			{R: 1, Rev: 41, Filter: "^b | @1=5", Seen: []api.Head{head(1, 3, 2, 1), head(3, 5, 2, 2)}, Epochs: []int{4, 2, 5}},
			{R: 2, Rev: 30, Filter: " ^a", Seen: []api.Head{head(1, 3, 2, 1), head(3, 5, 2, 2), head(4, 9, 1, 4), head(5, 8, 2, 3)}, Epochs: []int{4, 2, 5}},
			{R: 3, Rev: 7, Filter: "^zz", Seen: []api.Head{head(1, 3, 2, 1)}, Epochs: []int{4, 2, 5}},
		},
	}
}

// told is what replica 1 may tell amid, or replica 3 does.
func told() api.Gossip {
	return api.Gossip{
		From: 1, To: 2,
		Views: []api.View{
			{R: 1, Rev: 42, Filter: "^b | @1=5", Seen: []api.Head{head(1, 3, 2, 1), head(2, 10, 1, 5), head(3, 5, 2, 2)}, Epochs: []int{4, 2, 5}},
			{R: 2, Rev: 20, Filter: "*", Epochs: []int{0, 0, 5}},
			{R: 3, Rev: 6, Filter: "^z", Epochs: []int{0, 0, 5}},
		},
		Batch: []api.Version{
			{Item: 2, S: stampOf(10, 1, 5), Attrs: []api.Attr{attr(0, 0), attr(3, 99)}, Tag: "a", Body: "twelve bytes"},
			{Item: 6, S: stampOf(10, 3, 1), Dead: true, Tag: "abcdef"},
		},
	}
}

// wantMay asks for the answer; for what was handed in as it was; and, if it may not be, that a replica takes nothing of it.
func wantMay(t *testing.T, what string, g api.Gossip, size int, want bool) {
	t.Helper()
	was := copyOfGossip(g)
	if got := May(g, size); got != want {
		t.Errorf("%s: May(%v, %d): %v", what, g, size, got)
	}
	if !alikeGossip(g, was) {
		t.Errorf("%s: what was handed in is changed to %v", what, g)
	}
	if !want {
		wantNone(t, what, g, size)
	}
}

// wantNone asks that no replica of size takes anything of g, the one that it is told to neither.
func wantNone(t *testing.T, what string, g api.Gossip, size int) {
	t.Helper()
	for id := 1; id <= min(size, api.MaxRepl); id++ {
		r := begun(t, id, min(size, api.MaxRepl), 4)
		wantEArg(t, what, mustPut(t, mustFilter(t, mustPut(t, r, 4, "a"), "^b"), 5, "b"), g)
	}
}

// wantEArg asks for that, for the replica as it was, and for what was handed in as it was.
func wantEArg(t *testing.T, what string, r api.Repl, g api.Gossip) {
	t.Helper()
	was, gWas := copyOf(r), copyOfGossip(g)
	if got, e := From(r, g); e != api.EArg || !alikeRepl(got, was) {
		t.Errorf("%s: From(%v, %v): %v, %d", what, r, g, got, e)
	}
	if !alikeRepl(r, was) || !alikeGossip(g, gWas) {
		t.Errorf("%s: what was handed in is changed to %v, %v", what, r, g)
	}
}

func TestMayFromAndTo(t *testing.T) {
	for size := 0; size <= api.MaxRepl; size++ {
		numbers := []int{math.MinInt, -1, 0, 1, 2, 3, 4, 5, 6, math.MaxInt}
		for _, from := range numbers {
			for _, to := range numbers {
				want := 1 <= from && from <= size && 1 <= to && to <= size && from != to
				wantMay(t, "From and To", api.Gossip{From: from, To: to}, size, want)
			}
		}
	}
	for _, size := range []int{math.MinInt, -1, 0, 1} {
		wantMay(t, "no two", api.Gossip{From: 1, To: 2}, size, false)
		wantMay(t, "nothing", api.Gossip{}, size, false)
		wantMay(t, "below", api.Gossip{From: size, To: size - 1}, size, false)
	}
}

// viewOf is a view of replica n of size.
func viewOf(n, size int) api.View {
	return api.View{R: n, Rev: 10 + n, Filter: "^a", Seen: []api.Head{head(2, 4, 1, 3), head(6, 9, 5, 1)}, Epochs: []int{1, 0, 2, 1000000, 3}[:size]}
}

func TestMayViewsOfEachSet(t *testing.T) {
	for size := 2; size <= api.MaxRepl; size++ {
		for set := range 1 << size {
			g := api.Gossip{From: size, To: 1}
			for n := 1; n <= size; n++ {
				if set>>(n-1)&1 == 1 {
					g.Views = append(g.Views, viewOf(n, size))
				}
			}
			wantMay(t, "a set", g, size, true)
			if len(g.Views) > 1 {
				slices.Reverse(g.Views)
				wantMay(t, "falling", g, size, false)
			}
		}
	}
}

// Each two views, each three: R must rise.
func TestMayViewsRise(t *testing.T) {
	for a := 1; a <= 4; a++ {
		for b := 1; b <= 4; b++ {
			g := api.Gossip{From: 2, To: 4, Views: []api.View{viewOf(a, 4), viewOf(b, 4)}}
			wantMay(t, "two", g, 4, a < b)
			for c := 1; c <= 4; c++ {
				g.Views = []api.View{viewOf(a, 4), viewOf(b, 4), viewOf(c, 4)}
				g.Views[1].Rev = 1
				wantMay(t, "three", g, 4, a < b && b < c)
			}
		}
	}
}

// turn is a change, and whether what is changed may be then.
type turn[T any] struct {
	what string
	do   func(*T)
	may  bool
}

func turnsOfView() []turn[api.View] {
	return []turn[api.View]{
		{"as it is", func(v *api.View) {}, true},
		{"Rev 0", func(v *api.View) { v.Rev = 0 }, false},
		{"nothing is known", func(v *api.View) { *v = api.View{R: v.R} }, false},
		{"none", func(v *api.View) { *v = api.View{} }, false},
		{"Rev 1", func(v *api.View) { v.Rev = 1 }, true},
		{"Rev 2", func(v *api.View) { v.Rev = 2 }, true},
		{"Rev below 0", func(v *api.View) { v.Rev = -1 }, false},
		{"the least Rev", func(v *api.View) { v.Rev = math.MinInt }, false},
		{"Rev at its end", func(v *api.View) { v.Rev = 1000000 }, true},
		{"Rev beyond it", func(v *api.View) { v.Rev = 1000001 }, false},
		{"the greatest Rev", func(v *api.View) { v.Rev = math.MaxInt }, false},
		{"R 0", func(v *api.View) { v.R = 0 }, false},
		{"R below 0", func(v *api.View) { v.R = -1 }, false},
		{"R above size", func(v *api.View) { v.R = 4 }, false},
		{"the greatest R", func(v *api.View) { v.R = math.MaxInt }, false},
		{"another filter", func(v *api.View) { v.Filter = " ! ( @3:0-99 | ^abcdef ) " }, true},
		{"no filter", func(v *api.View) { v.Filter = "" }, false},
		{"a filter that is none", func(v *api.View) { v.Filter = "^a)" }, false},
		{"a filter too long", func(v *api.View) { v.Filter = "*" + strings.Repeat(" ", api.MaxText) }, false},
		{"nothing seen", func(v *api.View) { v.Seen = nil }, true},
		{"an empty list seen", func(v *api.View) { v.Seen = []api.Head{} }, true},
		{"all seen", func(v *api.View) {
			v.Seen = []api.Head{head(1, 1, 1, 1), head(2, 1, 1, 1), head(3, 1, 1, 1), head(4, 1, 1, 1), head(5, 1, 1, 1), head(6, 5000, 5, 1000)}
		}, true},
		{"seen of thing 0", func(v *api.View) { v.Seen[0].Item = 0 }, false},
		{"seen of thing 7", func(v *api.View) { v.Seen[1].Item = 7 }, false},
		{"seen the same twice", func(v *api.View) { v.Seen[1].Item = 2 }, false},
		{"seen falling", func(v *api.View) { slices.Reverse(v.Seen) }, false},
		{"seen without a stamp", func(v *api.View) { v.Seen[1].S = api.Stamp{} }, false},
		{"seen of L 0", func(v *api.View) { v.Seen[0].S.L = 0 }, false},
		{"seen of replica 6", func(v *api.View) { v.Seen[0].S.R = 6 }, false},
		{"no Epochs", func(v *api.View) { v.Epochs = nil }, false},
		{"too few Epochs", func(v *api.View) { v.Epochs = v.Epochs[:2] }, false},
		{"too many Epochs", func(v *api.View) { v.Epochs = append(slices.Clone(v.Epochs), 0) }, false},
		{"Epochs of nought", func(v *api.View) { clear(v.Epochs) }, true},
		{"an epoch below 0", func(v *api.View) { v.Epochs[1] = -1 }, false},
		{"an epoch at its end", func(v *api.View) { v.Epochs[2] = 1000000 }, true},
		{"an epoch beyond it", func(v *api.View) { v.Epochs[0] = 1000001 }, false},
	}
}

// Each view in turn, of one, of two and of three.
func TestMayEachView(t *testing.T) {
	for _, x := range turnsOfView() {
		for set := 1; set < 8; set++ {
			for n := 1; n <= 3; n++ {
				if set>>(n-1)&1 == 0 {
					continue
				}
				g := api.Gossip{From: 1, To: 2}
				for m := 1; m <= 3; m++ {
					v := viewOf(m, 3)
					v.Epochs = slices.Clone(v.Epochs)
					if m == n {
						x.do(&v)
					}
					if set>>(m-1)&1 == 1 {
						g.Views = append(g.Views, v)
					}
				}
				wantMay(t, x.what, g, 3, x.may)
			}
		}
	}
}

// What may be of three may not be of two or four: the Epochs are too many, too few.
func TestMayViewsOfAnotherSize(t *testing.T) {
	for size := 2; size <= api.MaxRepl; size++ {
		for other := 2; other <= api.MaxRepl; other++ {
			g := api.Gossip{From: 2, To: 1, Views: []api.View{viewOf(1, size)}}
			wantMay(t, "another size", g, other, size == other)
		}
	}
}

func turnsOfVersion() []turn[api.Version] {
	return []turn[api.Version]{
		{"as it is", func(v *api.Version) {}, true},
		{"none", func(v *api.Version) { *v = api.Version{} }, false},
		{"thing 0", func(v *api.Version) { v.Item = 0 }, false},
		{"thing 7", func(v *api.Version) { v.Item = 7 }, false},
		{"thing below 0", func(v *api.Version) { v.Item = -1 }, false},
		{"another thing", func(v *api.Version) { v.Item = 6 }, true},
		{"no stamp", func(v *api.Version) { v.S = api.Stamp{} }, false},
		{"R 0", func(v *api.Version) { v.S.R = 0 }, false},
		{"R 6", func(v *api.Version) { v.S.R = 6 }, false},
		{"R beyond size", func(v *api.Version) { v.S.R = 5 }, true},
		{"N 0", func(v *api.Version) { v.S.N = 0 }, false},
		{"N below 0", func(v *api.Version) { v.S.N = math.MinInt }, false},
		{"N beyond L", func(v *api.Version) { v.S.N = v.S.L + 1 }, false},
		{"three attributes", func(v *api.Version) { v.Attrs = []api.Attr{attr(0, 0), attr(1, 99), attr(3, 5)} }, true},
		{"four attributes", func(v *api.Version) { v.Attrs = []api.Attr{attr(0, 0), attr(1, 99), attr(2, 1), attr(3, 5)} }, false},
		{"a key twice", func(v *api.Version) { v.Attrs = []api.Attr{attr(1, 0), attr(1, 99)} }, false},
		{"keys falling", func(v *api.Version) { v.Attrs = []api.Attr{attr(2, 0), attr(1, 99)} }, false},
		{"a key beyond", func(v *api.Version) { v.Attrs = []api.Attr{attr(4, 0)} }, false},
		{"a key below 0", func(v *api.Version) { v.Attrs = []api.Attr{attr(-1, 0)} }, false},
		{"a value beyond", func(v *api.Version) { v.Attrs = []api.Attr{attr(1, 100)} }, false},
		{"a value below 0", func(v *api.Version) { v.Attrs = []api.Attr{attr(1, -1)} }, false},
		{"a tag of six", func(v *api.Version) { v.Tag = "abcxyz" }, true},
		{"a tag of seven", func(v *api.Version) { v.Tag = "abcxyza" }, false},
		{"a tag that is none", func(v *api.Version) { v.Tag = "aB" }, false},
		{"a body of twelve", func(v *api.Version) { v.Body = "\x00twelve byte" }, true},
		{"a body of thirteen", func(v *api.Version) { v.Body = "thirteen byte" }, false},
		{"Dead", func(v *api.Version) { v.Dead, v.Body = true, "" }, true},
		{"Dead, with a body", func(v *api.Version) { v.Dead = true }, false},
	}
}

func TestMayEachVersion(t *testing.T) {
	for _, x := range turnsOfVersion() {
		for size := 1; size <= api.MaxBatch+1; size++ {
			for place := range size {
				g := api.Gossip{From: 1, To: 2}
				for i := range size {
					v := api.Version{Item: 6 - i, S: stampOf(4+10*i, 3, 2), Attrs: []api.Attr{attr(1, 5)}, Tag: "ab", Body: "body"}
					if i == place {
						x.do(&v)
					}
					g.Batch = append(g.Batch, v)
				}
				wantMay(t, x.what, g, 3, x.may && size <= api.MaxBatch)
			}
		}
	}
}

func TestMayHowManyOfABatch(t *testing.T) {
	for n := range 40 {
		g := api.Gossip{From: 1, To: 2}
		for i := range n {
			g.Batch = append(g.Batch, version(1+i%6, 2+i, 1, 1, "a"))
		}
		wantMay(t, "so many", g, 2, n <= api.MaxBatch)
	}
	wantMay(t, "an empty list", api.Gossip{From: 1, To: 2, Batch: []api.Version{}, Views: []api.View{}}, 2, true)
}

// stamps rise by place.
func stamps() []api.Stamp {
	return []api.Stamp{
		stampOf(3, 1, 1), stampOf(3, 1, 2), stampOf(3, 2, 1), stampOf(3, 2, 3), stampOf(3, 5, 1), stampOf(4, 1, 1), stampOf(4, 1, 4), stampOf(4, 3, 2), stampOf(5000, 5, 1000),
	}
}

// Each two, each three, of one thing and of others: their stamps must rise, whatever the things.
func TestMayStampsRise(t *testing.T) {
	l := stamps()
	for a := range l {
		for b := range l {
			for _, things := range [][3]int{{1, 2, 3}, {3, 2, 1}, {4, 4, 4}, {2, 6, 2}} {
				x, y := api.Version{Item: things[0], S: l[a]}, api.Version{Item: things[1], S: l[b]}
				wantMay(t, "two", api.Gossip{From: 3, To: 1, Batch: []api.Version{x, y}}, 3, a < b)
				for c := range l {
					z := api.Version{Item: things[2], S: l[c]}
					wantMay(t, "three", api.Gossip{From: 3, To: 1, Batch: []api.Version{x, y, z}}, 3, a < b && b < c)
				}
			}
		}
	}
	for cut := range 4 {
		g := api.Gossip{From: 1, To: 2}
		for i := range 4 {
			g.Batch = append(g.Batch, api.Version{Item: 1 + i, S: l[(i+cut)%4]})
		}
		wantMay(t, "four", g, 2, cut == 0)
	}
}

// That one of many views or versions may not be is told though all behind it may, and all ahead of it.
func TestMayOfAmid(t *testing.T) {
	wantMay(t, "told", told(), 3, true)
	for i := range told().Views {
		g := told()
		g.Views[i].Rev = 0
		wantMay(t, "a view", g, 3, false)
		wantEArg(t, "a view", amid(), g)
	}
	for i := range told().Batch {
		g := told()
		g.Batch[i].S.R = 0
		wantMay(t, "a version", g, 3, false)
		wantEArg(t, "a version", amid(), g)
	}
}

// What is told to another one is taken by none but that.
func TestFromAnotherOnes(t *testing.T) {
	for size := 2; size <= api.MaxRepl; size++ {
		for from := 1; from <= size; from++ {
			for to := 1; to <= size; to++ {
				if from == to {
					continue
				}
				g := api.Gossip{From: from, To: to, Views: []api.View{viewOf(from, size)}, Batch: []api.Version{version(1, 7, 1, 1, "a")}}
				for id := 1; id <= size; id++ {
					r := mustPut(t, begun(t, id, size, 4), 2, "b")
					if id != to {
						wantEArg(t, "another one's", r, g)
						continue
					}
					if got, e := From(r, g); e != api.OK || alikeRepl(got, r) || len(got.Held) != 2 {
						t.Errorf("From(%v, %v): %v, %d", r, g, got, e)
					}
				}
			}
		}
	}
	g := told()
	for _, to := range []int{math.MinInt, -1, 0, 1, 3, 4, math.MaxInt} {
		g.To = to
		wantEArg(t, "another one's", amid(), g)
	}
}
