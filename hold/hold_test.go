package hold

import (
	"errors"
	"math"
	"slices"
	"strings"
	"testing"
	"unsafe"

	"cardamom/api"
	"cardamom/stamp"
	"cardamom/vers"
)

// ver is a version of an item at time l.
func ver(item, l int, tag string, attrs ...api.Attr) api.Version {
	return api.Version{Item: item, S: api.Stamp{L: l, R: 1, N: 1}, Attrs: attrs, Tag: tag, Body: "of " + tag}
}

func attr(key, val int) api.Attr { return api.Attr{Key: key, Val: val} }

func row(l ...api.Version) []api.Version { return l }

// three is a row with room ahead of its things, between them and behind them.
func three() []api.Version {
	return row(ver(2, 5, "ab", attr(1, 5)), ver(4, 7, "x"), ver(5, 6, "ac", attr(0, 1), attr(1, 9), attr(3, 99)))
}

func dead(item, l int, tag string, attrs ...api.Attr) api.Version {
	v := ver(item, l, tag, attrs...)
	v.Dead, v.Body = true, ""
	return v
}

// alike is apart from vers.Same, so that a fault there is not hidden here.
func alike(a, b api.Version) bool {
	return a.Item == b.Item && a.S == b.S && a.Dead == b.Dead && slices.Equal(a.Attrs, b.Attrs) && a.Tag == b.Tag && a.Body == b.Body
}

func wantRow(t *testing.T, what string, got, want []api.Version) {
	t.Helper()
	if !slices.EqualFunc(got, want, alike) {
		t.Errorf("%s: %v, not %v", what, got, want)
	}
}

func wantFound(t *testing.T, l []api.Version, item int, want api.Version, there bool) {
	t.Helper()
	if got, ok := Find(l, item); ok != there || !alike(got, want) {
		t.Errorf("Find(%v, %d) = %v, %v", l, item, got, ok)
	}
}

func wantPut(t *testing.T, l []api.Version, v api.Version, want []api.Version) {
	t.Helper()
	if got := Put(l, v); !slices.EqualFunc(got, want, alike) {
		t.Errorf("Put(%v, %v) = %v", l, v, got)
	}
}

func TestFind(t *testing.T) {
	l := three()
	for _, v := range l {
		wantFound(t, l, v.Item, v, true)
		wantFound(t, row(v), v.Item, v, true)
	}
	for _, item := range []int{math.MinInt, -2, -1, 0, 1, 3, 6, 7, math.MaxInt} {
		wantFound(t, l, item, api.Version{}, false)
	}
	for _, item := range []int{math.MinInt, -1, 0, 1, 2, 6, 7, math.MaxInt} {
		wantFound(t, nil, item, api.Version{}, false)
	}
}

// What is no more is held all the same.
func TestFindOfADeadOne(t *testing.T) {
	v := dead(3, 4, "ab", attr(2, 2))
	wantFound(t, row(v), 3, v, true)
	wantFound(t, row(ver(1, 1, ""), v, ver(4, 1, "")), 3, v, true)
}

func TestPutOfWhatIsNotThere(t *testing.T) {
	l := three()
	wantPut(t, nil, ver(3, 1, "q"), row(ver(3, 1, "q")))
	wantPut(t, l[1:2], ver(1, 1, "q"), row(ver(1, 1, "q"), l[1]))
	wantPut(t, l[1:2], ver(6, 1, "q"), row(l[1], ver(6, 1, "q")))
	wantPut(t, l, ver(1, 1, "q"), row(ver(1, 1, "q"), l[0], l[1], l[2]))
	wantPut(t, l, ver(3, 1, "q"), row(l[0], ver(3, 1, "q"), l[1], l[2]))
	wantPut(t, l, ver(6, 1, "q"), row(l[0], l[1], l[2], ver(6, 1, "q")))
	wantPut(t, l, ver(6, 5000, "q"), row(l[0], l[1], l[2], ver(6, 5000, "q")))
	wantPut(t, l, dead(3, 1, "q"), row(l[0], dead(3, 1, "q"), l[1], l[2]))
}

// An older one leaves what is there; one of the same stamp and a newer one take its place, each as it is in all.
func TestPutOfWhatIsThere(t *testing.T) {
	l := three()
	for i := range l {
		l[i].S = api.Stamp{L: 5 + i, R: 3, N: 4}
	}
	for i, old := range l {
		for _, x := range []struct {
			l, r, n int
			put     bool
		}{
			{-1, 0, 0, false}, {-1, 2, 900, false}, {0, -1, 0, false}, {0, -1, 900, false}, {0, 0, -1, false},
			{0, 0, 0, true},
			{0, 0, 1, true}, {0, 1, -1, true}, {0, 1, 0, true}, {1, -1, -1, true}, {1, 0, 0, true}, {900, -2, -3, true},
		} {
			for _, v := range []api.Version{ver(old.Item, 1, "q"), dead(old.Item, 1, "q", attr(2, 3)), old} {
				v.S = api.Stamp{L: old.S.L + x.l, R: old.S.R + x.r, N: old.S.N + x.n}
				want := slices.Clone(l)
				if x.put {
					want[i] = v
				}
				wantPut(t, l, v, want)
			}
		}
	}
	wantPut(t, row(ver(3, 9, "x")), ver(3, 10, "q"), row(ver(3, 10, "q")))
	wantPut(t, row(ver(3, 9, "x")), ver(3, 9, "q"), row(ver(3, 9, "q")))
	wantPut(t, row(ver(3, 9, "x")), ver(3, 8, "q"), row(ver(3, 9, "x")))
	wantPut(t, row(dead(3, 9, "x")), ver(3, 8, "q"), row(dead(3, 9, "x")))
	wantPut(t, row(dead(3, 9, "x")), ver(3, 10, "q"), row(ver(3, 10, "q")))
}

func all() api.Filter { return api.Filter{Op: api.All} }

func eq(key, n int) api.Filter { return api.Filter{Op: api.Eq, Key: key, Lo: n, Hi: n} }

func between(key, lo, hi int) api.Filter {
	return api.Filter{Op: api.Range, Key: key, Lo: lo, Hi: hi}
}

func prefix(tag string) api.Filter { return api.Filter{Op: api.Prefix, Tag: tag} }

func not(f api.Filter) api.Filter { return api.Filter{Op: api.Not, Args: []api.Filter{f}} }

func and(a, b api.Filter) api.Filter { return api.Filter{Op: api.And, Args: []api.Filter{a, b}} }

func or(a, b api.Filter) api.Filter { return api.Filter{Op: api.Or, Args: []api.Filter{a, b}} }

// full is a row of all things.
func full() []api.Version {
	return row(
		ver(1, 9, "ab", attr(0, 0)),
		ver(2, 4, "", attr(0, 50), attr(2, 7)),
		dead(3, 7, "abc", attr(1, 99)),
		ver(4, 1, "b"),
		ver(5, 5000, "zzzzzz", attr(1, 3), attr(2, 7), attr(3, 0)),
		dead(6, 2, ""),
	)
}

func TestInAndOut(t *testing.T) {
	for i, x := range []struct {
		f  api.Filter
		in []int
	}{
		{all(), []int{1, 2, 3, 4, 5, 6}},
		{not(all()), nil},
		{prefix("a"), []int{1, 3}},
		{prefix("ab"), []int{1, 3}},
		{prefix("abc"), []int{3}},
		{prefix("abcd"), nil},
		{prefix("b"), []int{4}},
		{prefix("zzzzzz"), []int{5}},
		{eq(0, 0), []int{1}},
		{eq(0, 50), []int{2}},
		{eq(2, 7), []int{2, 5}},
		{eq(2, 6), nil},
		{between(0, 0, 99), []int{1, 2}},
		{between(1, 3, 99), []int{3, 5}},
		{between(1, 4, 98), nil},
		{not(prefix("a")), []int{2, 4, 5, 6}},
		{not(between(0, 0, 99)), []int{3, 4, 5, 6}},
		{not(eq(2, 7)), []int{1, 3, 4, 6}},
		{and(prefix("a"), eq(1, 99)), []int{3}},
		{or(prefix("b"), eq(0, 0)), []int{1, 4}},
		{or(eq(0, 0), not(between(1, 0, 99))), []int{1, 2, 4, 6}},
	} {
		for _, l := range [][]api.Version{nil, full(), full()[:1], full()[1:], full()[2:5], full()[5:]} {
			var in, out []api.Version
			for _, v := range l {
				if slices.Contains(x.in, v.Item) {
					in = append(in, v)
				} else {
					out = append(out, v)
				}
			}
			if got := In(l, x.f); !slices.EqualFunc(got, in, alike) {
				t.Errorf("%d: In(%v, %v) = %v", i, l, x.f, got)
			}
			if got := Out(l, x.f); !slices.EqualFunc(got, out, alike) {
				t.Errorf("%d: Out(%v, %v) = %v", i, l, x.f, got)
			}
		}
	}
}

func TestWithout(t *testing.T) {
	l := three()
	for _, x := range []struct {
		item int
		want []api.Version
	}{
		{2, row(l[1], l[2])},
		{4, row(l[0], l[2])},
		{5, row(l[0], l[1])},
		{1, l}, {3, l}, {6, l}, {0, l}, {7, l}, {-2, l}, {math.MinInt, l}, {math.MaxInt, l},
	} {
		wantRow(t, "Without", Without(l, x.item), x.want)
		wantRow(t, "Without of none", Without(nil, x.item), nil)
	}
	wantRow(t, "the only one", Without(l[:1], 2), nil)
	wantRow(t, "a dead one", Without(full(), 3), append(full()[:2], full()[3:]...))
	wantRow(t, "the last of all", Without(full(), 6), full()[:5])
	wantRow(t, "the first of all", Without(full(), 1), full()[1:])
}

func wantHeads(t *testing.T, l []api.Version, want ...api.Head) {
	t.Helper()
	if got := Heads(l); !slices.Equal(got, want) {
		t.Errorf("Heads(%v) = %v", l, got)
	}
}

func TestHeads(t *testing.T) {
	wantHeads(t, nil)
	wantHeads(t, three(), api.Head{Item: 2, S: api.Stamp{L: 5, R: 1, N: 1}}, api.Head{Item: 4, S: api.Stamp{L: 7, R: 1, N: 1}}, api.Head{Item: 5, S: api.Stamp{L: 6, R: 1, N: 1}})
	v := dead(3, 1, "ab")
	v.S = api.Stamp{L: 9, R: 5, N: 4}
	wantHeads(t, row(v), api.Head{Item: 3, S: api.Stamp{L: 9, R: 5, N: 4}})
	wantHeads(t, row(api.Version{Item: 6, Body: "b"}), api.Head{Item: 6})
	if got := Heads(full()); len(got) != api.MaxItem || got[0].Item != 1 || got[5].S.L != 2 {
		t.Errorf("Heads of all: %v", got)
	}
}

// held is a row as what is held of each thing, without an order: which of the stamps it has, from 1 on; 0: nothing is.
type held [api.MaxItem]int

// rising is stamps that differ in each of their parts.
func rising() []api.Stamp {
	return []api.Stamp{{L: 4, R: 1, N: 4}, {L: 4, R: 2, N: 1}, {L: 4, R: 2, N: 2}, {L: 5, R: 1, N: 1}}
}

// of is the version of thing i + 1 with the n'th stamp; the two hang together in its other parts too.
func of(i, n int) api.Version {
	tags := []string{"", "a", "ab", "b", "ba", "c"}
	v := api.Version{Item: i + 1, S: rising()[n-1], Dead: (i+n)%3 == 0, Tag: tags[(i+2*n)%6]}
	if n%2 == 1 {
		v.Attrs = append(v.Attrs, attr(i%3, 10*n+i), attr(3, n))
	}
	if !v.Dead {
		v.Body = strings.Repeat("b", i+n)
	}
	return v
}

// each is all that may be held of so many things with so many stamps.
func each(things, stamps int) []held {
	l := []held{{}}
	for i := range things {
		var more []held
		for _, h := range l {
			for n := range stamps + 1 {
				h[i] = n
				more = append(more, h)
			}
		}
		l = more
	}
	return l
}

func (h held) row() (l []api.Version) {
	for i, n := range h {
		if n > 0 {
			l = append(l, of(i, n))
		}
	}
	return l
}

func TestEachRow(t *testing.T) {
	for _, h := range each(api.MaxItem, 2) {
		wantEach(t, h, 2)
	}
	for _, h := range each(3, len(rising())) {
		wantEach(t, h, len(rising()))
	}
}

// wantEach asks of each thing whether it is found, put and left out as h has it.
func wantEach(t *testing.T, h held, stamps int) {
	t.Helper()
	l := h.row()
	var heads []api.Head
	for i, n := range h {
		without := h
		without[i] = 0
		wantRow(t, "Without", Without(l, i+1), without.row())
		if n == 0 {
			wantFound(t, l, i+1, api.Version{}, false)
		} else {
			wantFound(t, l, i+1, of(i, n), true)
			heads = append(heads, api.Head{Item: i + 1, S: rising()[n-1]})
		}
		for put := 1; put <= stamps; put++ {
			with := h
			with[i] = max(n, put)
			wantPut(t, l, of(i, put), with.row())
		}
	}
	wantHeads(t, l, heads...)
	var in, out []api.Version
	for _, v := range l {
		if v.Tag != "" && v.Tag[0] == 'a' {
			in = append(in, v)
		} else {
			out = append(out, v)
		}
	}
	wantRow(t, "In", In(l, prefix("a")), in)
	wantRow(t, "Out", Out(l, prefix("a")), out)
}

// Whatever is put, in whatever order: each thing is held once, as it was written last.
func TestEachThingIsHeldOnce(t *testing.T) {
	var l, put []api.Version
	state := 1
	for range 400 {
		state = state * 48271 % (1<<31 - 1)
		v := of(state%api.MaxItem, state/7%len(rising())+1)
		put = append(put, v)
		l = Put(l, v)
		for i, h := range l {
			if i > 0 && l[i-1].Item >= h.Item || !vers.May(h) {
				t.Fatalf("no row: %v", l)
			}
		}
		if len(put)%20 == 0 {
			var turned []api.Version
			for _, v := range slices.Backward(put) {
				turned = Put(turned, v)
			}
			wantRow(t, "from behind", turned, l)
		}
		for _, v := range put {
			if h, ok := Find(l, v.Item); !ok || stamp.Compare(v.S, h.S) > 0 {
				t.Fatalf("%v is lost in %v", v, l)
			}
		}
	}
	if len(l) != api.MaxItem {
		t.Errorf("%v", l)
	}
}

func TestErrorsAreWrapped(t *testing.T) {
	l := three()
	place, err := find(l, 3)
	var o ofThing
	if place != 1 || !errors.Is(err, errNone) || errors.Is(err, errNewer) || !errors.As(err, &o) || o.item != 3 {
		t.Errorf("find: %d, %v", place, err)
	}
	if err.Error() != "thing 3: hold: there is none" {
		t.Errorf("find: %v", err)
	}
	if place, err := find(l, 4); place != 1 || err != nil {
		t.Errorf("find: %d, %v", place, err)
	}
	from, to, err := seat(l, ver(4, 6, "q"))
	if from != 0 || to != 0 || !errors.Is(err, errNewer) || errors.Is(err, errNone) || !errors.As(err, &o) || o.item != 4 {
		t.Errorf("seat: %d, %d, %v", from, to, err)
	}
	if err.Error() != "thing 4: hold: a newer one is held" {
		t.Errorf("seat: %v", err)
	}
	for _, x := range []struct{ item, l, from, to int }{{4, 7, 1, 2}, {4, 8, 1, 2}, {1, 1, 0, 0}, {3, 1, 1, 1}, {6, 1, 3, 3}} {
		if from, to, err := seat(l, ver(x.item, x.l, "q")); from != x.from || to != x.to || err != nil {
			t.Errorf("seat of %d: %d, %d, %v", x.item, from, to, err)
		}
	}
}

// roomy is l with spare room behind it and behind its attributes, that has something in it.
func roomy(l []api.Version) []api.Version {
	room := append(slices.Clone(l), ver(9, 77, "spare"), ver(8, 78, "room"))
	for i, v := range room {
		room[i] = roomyOne(v)
	}
	return room[:len(l)]
}

func roomyOne(v api.Version) api.Version {
	more := append(slices.Clone(v.Attrs), attr(77, 78), attr(79, 80))
	v.Attrs = more[:len(v.Attrs)]
	return v
}

// turn writes over an answer and its spare room: what it shares with an argument is seen there.
func turn(l []api.Version) {
	l = l[:cap(l)]
	for i := range l {
		turnAttrs(l[i].Attrs)
		l[i] = ver(-1, -1, "turned", attr(-1, -1))
	}
}

func turnAttrs(l []api.Attr) {
	l = l[:cap(l)]
	for i := range l {
		l[i] = attr(-1, -1)
	}
}

func wantRoomy(t *testing.T, l, want []api.Version) {
	t.Helper()
	wantRow(t, "what was handed in", l[:len(want)+2], roomy(want)[:len(want)+2])
	for i, v := range l[:len(want)+2] {
		wantRoom(t, v, roomy(want)[:len(want)+2][i])
	}
}

func wantRoom(t *testing.T, v, want api.Version) {
	t.Helper()
	if n := len(want.Attrs) + 2; !slices.Equal(v.Attrs[:n], want.Attrs[:n]) {
		t.Errorf("the attributes of %v are changed to %v", want, v.Attrs[:n])
	}
}

func TestNothingHandedInIsChangedOrKept(t *testing.T) {
	f := or(prefix("a"), between(3, 0, 99))
	was := or(prefix("a"), between(3, 0, 99))
	for _, h := range each(4, 3) {
		l := roomy(h.row())
		for item := range 7 {
			v, _ := Find(l, item)
			turnAttrs(v.Attrs)
			turn(Without(l, item))
		}
		turn(In(l, f))
		turn(Out(l, f))
		heads := Heads(l)
		for i := range heads {
			heads[i] = api.Head{}
		}
		for i := range 5 {
			for n := 1; n <= 4; n++ {
				v := roomyOne(of(i, n))
				turn(Put(l, v))
				wantRoom(t, v, roomyOne(of(i, n)))
				if !alike(v, of(i, n)) {
					t.Errorf("%v is changed to %v", of(i, n), v)
				}
			}
		}
		wantRoomy(t, l, h.row())
	}
	if !slices.EqualFunc(f.Args, was.Args, func(a, b api.Filter) bool {
		return a.Op == b.Op && a.Key == b.Key && a.Lo == b.Lo && a.Hi == b.Hi && a.Tag == b.Tag && len(a.Args) == len(b.Args)
	}) {
		t.Errorf("the filter is changed to %v", f)
	}
}

// Versions that share their attributes do so no more in an answer.
func TestNoTwoListsOfAnAnswerShareMemory(t *testing.T) {
	attrs := []api.Attr{attr(0, 5), attr(1, 6)}
	l := row(ver(1, 3, "a", attrs...), ver(2, 3, "a", attrs...), ver(3, 3, "a", attrs...))
	v := ver(4, 3, "a", attrs...)
	for i, got := range [][]api.Version{Put(l, v), Put(l[1:], l[0]), Put(l, ver(2, 9, "a", attrs...)), Put(l, ver(2, 1, "")), In(l, all()), Out(l, prefix("b")), Without(l, 2)} {
		for j := range got {
			got[j].Attrs[0].Val = 70 + j
		}
		for j := range got {
			if got[j].Attrs[0].Val != 70+j {
				t.Errorf("%d: %v", i, got)
			}
		}
		if attrs[0].Val != 5 {
			t.Fatalf("%d: what was handed in is changed", i)
		}
	}
}

// The texts of an answer are new memory too, so that a small one does not keep a great one.
func TestTextsAreNewMemory(t *testing.T) {
	tag, body := strings.Repeat("a", 6), strings.Repeat("b", 12)
	v := api.Version{Item: 2, S: api.Stamp{L: 3, R: 1, N: 1}, Tag: tag, Body: body}
	l := row(v)
	found, _ := Find(l, 2)
	one := api.Version{Item: 3, S: v.S, Tag: tag, Body: body}
	answers := row(found)
	for _, more := range [][]api.Version{Put(nil, v), Put(l, v), Put(l, one), Put(l, api.Version{Item: 2}), In(l, all()), Out(l, prefix("b")), Without(l, 1)} {
		answers = append(answers, more...)
	}
	if len(answers) != 9 {
		t.Fatalf("%d answers", len(answers))
	}
	for i, a := range answers {
		if a.Tag != tag || a.Body != body || unsafe.StringData(a.Tag) == unsafe.StringData(tag) || unsafe.StringData(a.Body) == unsafe.StringData(body) {
			t.Errorf("answer %d: %v", i, a)
		}
	}
}

func TestNilAndEmptyAreOne(t *testing.T) {
	none := []api.Version{}
	wantFound(t, none, 1, api.Version{}, false)
	wantPut(t, none, ver(3, 1, "q"), row(ver(3, 1, "q")))
	wantRow(t, "In", In(none, all()), nil)
	wantRow(t, "Out", Out(none, prefix("a")), nil)
	wantRow(t, "Without", Without(none, 1), nil)
	wantHeads(t, none)
	bare, empty := ver(3, 4, "a"), ver(3, 4, "a")
	bare.Attrs, empty.Attrs = nil, []api.Attr{}
	wantFound(t, row(empty), 3, bare, true)
	wantPut(t, row(empty), bare, row(bare))
	wantPut(t, row(bare), empty, row(bare))
	wantRow(t, "In", In(row(empty), all()), row(bare))
}

// Versions that may not be stand in one row nevertheless.
func TestVersionsThatMayNotBe(t *testing.T) {
	l := row(ver(math.MinInt, 4, "A"), ver(-1, 0, strings.Repeat("a", 99)), ver(0, -4, "\xff"), ver(7, math.MaxInt, "", attr(-1, -1), attr(-1, 100)), ver(math.MaxInt, math.MinInt, "ab"))
	for i, v := range l {
		wantFound(t, l, v.Item, v, true)
		wantRow(t, "Without", Without(l, v.Item), append(slices.Clone(l[:i]), l[i+1:]...))
		wantPut(t, append(slices.Clone(l[:i]), l[i+1:]...), v, l)
		wantPut(t, l, v, l)
	}
	wantPut(t, l, ver(math.MaxInt, math.MinInt+1, "q"), append(slices.Clone(l[:4]), ver(math.MaxInt, math.MinInt+1, "q")))
	wantPut(t, l, ver(7, math.MaxInt-1, "q"), l)
	// A stamp of nought is a stamp as any: it is older than one that may be, and as old as itself.
	wantPut(t, nil, api.Version{}, row(api.Version{}))
	wantPut(t, row(api.Version{Item: 2}), api.Version{Item: 2, Tag: "q"}, row(api.Version{Item: 2, Tag: "q"}))
	wantPut(t, row(ver(2, 1, "a")), api.Version{Item: 2}, row(ver(2, 1, "a")))
	wantPut(t, row(api.Version{Item: 2}), ver(2, 1, "a"), row(ver(2, 1, "a")))
	wantRow(t, "In", In(l, prefix("a")), row(l[1], l[4]))
	wantRow(t, "Out", Out(l, prefix("a")), row(l[0], l[2], l[3]))
}

// ring is a filter that holds itself.
func ring(op int) api.Filter {
	args := make([]api.Filter, 2)
	args[0] = api.Filter{Op: op, Args: args}
	args[1] = api.Filter{Op: op, Args: args}
	return args[0]
}

// Whatever the filter: each version is told by just one of In and Out.
func TestFiltersThatMayNotBe(t *testing.T) {
	deep := prefix("a")
	for range 1 << 16 {
		deep = not(deep)
	}
	for i, f := range []api.Filter{
		{}, {Op: -1}, {Op: 8}, {Op: math.MaxInt}, {Op: math.MinInt}, {Op: api.And}, {Op: api.Or}, {Op: api.Not},
		{Op: api.Not, Args: make([]api.Filter, 9)}, {Op: api.And, Args: make([]api.Filter, 1)},
		eq(math.MaxInt, 5), eq(-1, -1), between(0, math.MinInt, math.MaxInt), between(0, 9, 3), prefix(""), prefix(strings.Repeat("a", 1<<16)), prefix("\xff"),
		deep, ring(api.And), ring(api.Or), ring(api.Not), ring(99),
	} {
		for _, l := range [][]api.Version{nil, full(), three(), row(api.Version{}), row(ver(1, 1, "\xff", attr(-1, -1)))} {
			was := slices.Clone(l)
			in, out := In(l, f), Out(l, f)
			both := slices.Clone(in)
			for _, v := range out {
				if _, ok := Find(in, v.Item); ok {
					t.Errorf("%d: thing %d is in and out", i, v.Item)
				}
				both = Put(both, v)
			}
			wantRow(t, "In and Out", both, l)
			wantRow(t, "what was handed in", l, was)
			wantRow(t, "In again", In(l, f), in)
			wantRow(t, "Out again", Out(l, f), out)
		}
	}
}

// Nothing is promised of lists that do not rise, but that each call ends, changes nothing, and tells the same each time.
func TestListsThatAreNoRows(t *testing.T) {
	long := slices.Repeat(row(ver(5, 3, "a"), ver(1, 9, "b", attr(1, 1)), ver(1, 2, ""), api.Version{Item: math.MinInt}, ver(math.MaxInt, 0, "z")), 1<<12)
	down := full()
	slices.Reverse(down)
	great := ver(2, 3, strings.Repeat("a", 1<<20), make([]api.Attr, 1<<16)...)
	great.Body = strings.Repeat("\xff", 1<<20)
	for i, l := range [][]api.Version{long, down, row(ver(2, 1, "a"), ver(2, 9, "b"), ver(2, 5, "c")), slices.Repeat(row(ver(3, 3, "a")), 40), make([]api.Version, 9), row(great)} {
		was := slices.Clone(l)
		for _, v := range []api.Version{ver(1, 1, "q"), ver(3, 9, "q"), ver(2, 3, "q"), ver(9, 9, "q"), {}, {Item: math.MinInt, S: api.Stamp{L: math.MaxInt}}} {
			a, ok := Find(l, v.Item)
			b, again := Find(l, v.Item)
			if ok != again || !alike(a, b) || !slices.EqualFunc(Put(l, v), Put(l, v), alike) || !slices.EqualFunc(Without(l, v.Item), Without(l, v.Item), alike) {
				t.Errorf("list %d: not the same each time", i)
			}
		}
		if n := len(In(l, prefix("a"))) + len(Out(l, prefix("a"))); n != len(l) || len(Heads(l)) != len(l) {
			t.Errorf("list %d: %d of %d", i, n, len(l))
		}
		if !slices.EqualFunc(l, was, alike) {
			t.Errorf("list %d is changed", i)
		}
	}
}
