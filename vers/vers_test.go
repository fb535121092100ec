package vers

import (
	"errors"
	"math"
	"slices"
	"strings"
	"testing"

	"cardamom/api"
	"cardamom/stamp"
)

// full is a version with something in each part, each at its greatest length.
func full() api.Version {
	return api.Version{
		Item:  3,
		S:     api.Stamp{L: 7, R: 2, N: 4},
		Attrs: []api.Attr{{Key: 0, Val: 99}, {Key: 2, Val: 0}, {Key: 3, Val: 50}},
		Tag:   "abmxyz",
		Body:  "\x00\xff twelve by",
	}
}

// turn is full with one thing changed.
func turn(change func(v *api.Version)) api.Version {
	v := full()
	change(&v)
	return v
}

func withItem(n int) api.Version { return turn(func(v *api.Version) { v.Item = n }) }

func withStamp(l, r, n int) api.Version {
	return turn(func(v *api.Version) { v.S = api.Stamp{L: l, R: r, N: n} })
}

func withAttrs(l ...api.Attr) api.Version { return turn(func(v *api.Version) { v.Attrs = l }) }

func withKeys(keys ...int) api.Version {
	var l []api.Attr
	for _, key := range keys {
		l = append(l, api.Attr{Key: key, Val: 1})
	}
	return withAttrs(l...)
}

func withTag(tag string) api.Version { return turn(func(v *api.Version) { v.Tag = tag }) }

func withBody(body string) api.Version { return turn(func(v *api.Version) { v.Body = body }) }

func dead(body string) api.Version {
	return turn(func(v *api.Version) { v.Dead, v.Body = true, body })
}

func TestMayAtEachLimit(t *testing.T) {
	for _, x := range []struct {
		v    api.Version
		want bool
	}{
		{full(), true},
		{api.Version{}, false},
		{api.Version{Item: 1, S: api.Stamp{L: 1, R: 1, N: 1}}, true},
		{withItem(-1), false},
		{withItem(0), false},
		{withItem(1), true},
		{withItem(6), true},
		{withItem(7), false},
		{withStamp(0, 1, 1), false},
		{withStamp(1, 1, 1), true},
		{withStamp(5000, 5, 1000), true},
		{withStamp(5001, 5, 1000), false},
		{withStamp(9, 0, 1), false},
		{withStamp(9, 6, 1), false},
		{withStamp(9, 5, 0), false},
		{withStamp(9, 5, 9), true},
		{withStamp(9, 5, 10), false},
		{withStamp(5000, 5, 1001), false},
		{withKeys(), true},
		{withKeys(0), true},
		{withKeys(3), true},
		{withKeys(-1), false},
		{withKeys(4), false},
		{withKeys(0, 1), true},
		{withKeys(1, 1), false},
		{withKeys(1, 0), false},
		{withKeys(1, 2, 3), true},
		{withKeys(0, 3, 4), false},
		{withKeys(0, 3, 3), false},
		{withKeys(1, 3, 2), false},
		{withKeys(0, 1, 2), true},
		{withKeys(0, 1, 2, 3), false},
		{withAttrs(api.Attr{Key: 1, Val: -1}), false},
		{withAttrs(api.Attr{Key: 1, Val: 0}), true},
		{withAttrs(api.Attr{Key: 1, Val: 99}), true},
		{withAttrs(api.Attr{Key: 1, Val: 100}), false},
		{withAttrs(api.Attr{Key: 1, Val: 5}, api.Attr{Key: 2, Val: 7}, api.Attr{Key: 3, Val: 99}), true},
		{withAttrs(api.Attr{Key: 1, Val: 5}, api.Attr{Key: 2, Val: 7}, api.Attr{Key: 3, Val: 100}), false},
		{withAttrs(api.Attr{Key: 1, Val: 5}, api.Attr{Key: 2, Val: -1}, api.Attr{Key: 3, Val: 9}), false},
		{withAttrs(api.Attr{Key: 1, Val: 9}, api.Attr{Key: 2, Val: 9}, api.Attr{Key: 3, Val: 1}), true},
		{withTag(""), true},
		{withTag("a"), true},
		{withTag("z"), true},
		{withTag("zzzzz"), true},
		{withTag("aaaaaa"), true},
		{withTag("aaaaaaa"), false},
		{withTag("éé"), false},
		{withTag("ééé"), false},
		{withBody(""), true},
		{withBody("eleven byte"), true},
		{withBody(strings.Repeat("\x00", 12)), true},
		{withBody(strings.Repeat("\xff", 12)), true},
		{withBody("éééééé"), true},
		{withBody("ééééééx"), false},
		{withBody(strings.Repeat("\x00", 13)), false},
		{dead(""), true},
		{dead("\x00"), false},
		{dead("twelve bytes"), false},
		{dead("thirteen byte"), false},
	} {
		if got := May(x.v); got != x.want {
			t.Errorf("May(%#v) = %v", x.v, got)
		}
	}
}

// Each byte, at each place of a tag.
func TestMayOfEachByteOfATag(t *testing.T) {
	for b := range 256 {
		for place := range api.MaxTag {
			tag := []byte("mmmmmm")
			tag[place] = byte(b)
			if got, want := May(withTag(string(tag))), 'a' <= b && b <= 'z'; got != want {
				t.Errorf("byte %d at %d: %v", b, place, got)
			}
		}
	}
}

// All lists of up to four keys from -1 to 4, against a set of keys in the one order that it may have.
func TestMayOfEachListOfKeys(t *testing.T) {
	may := map[string]int{}
	for set := range 1 << api.MaxKey {
		var keys []rune
		for key := range api.MaxKey {
			if set>>key&1 == 1 {
				keys = append(keys, 'a'+rune(key))
			}
		}
		if len(keys) <= api.MaxAttr {
			may[string(keys)] = 1
		}
	}
	count := 0
	var grow func(keys []int, name string)
	grow = func(keys []int, name string) {
		want := may[name] == 1
		if got := May(withKeys(keys...)); got != want {
			t.Errorf("keys %v: %v", keys, got)
		}
		if want {
			count++
		}
		if len(keys) > api.MaxAttr {
			return
		}
		for key := -1; key <= api.MaxKey; key++ {
			grow(append(slices.Clone(keys), key), name+string('a'+rune(key)))
		}
	}
	grow(nil, "")
	if count != 15 {
		t.Errorf("%d lists may be", count)
	}
}

func TestMayOfWrongInputs(t *testing.T) {
	for _, n := range []int{math.MinInt, math.MinInt + 1, -100, 5001, math.MaxInt - 1, math.MaxInt} {
		for i, v := range []api.Version{
			withItem(n), withStamp(n, 2, 4), withStamp(7, n, 4), withStamp(7, 2, n), withStamp(n, n, n),
			withKeys(n), withKeys(n, n), withKeys(n, 1), withKeys(1, n), withKeys(1, n, 2), withKeys(0, 2, n), withKeys(n, n, n, n),
			withAttrs(api.Attr{Key: 1, Val: n}), withAttrs(api.Attr{Key: n, Val: n}), withAttrs(api.Attr{Key: 0}, api.Attr{Key: 3, Val: n}),
		} {
			if May(v) {
				t.Errorf("%d: %d: May = true", n, i)
			}
		}
	}
	long := strings.Repeat("a", 1<<20)
	for i, v := range []api.Version{withTag(long), withBody(long), dead(long), withAttrs(make([]api.Attr, 1<<20)...), {Attrs: make([]api.Attr, 1<<20), Tag: long, Body: long, Dead: true}} {
		if May(v) {
			t.Errorf("long %d: May = true", i)
		}
	}
}

func TestFaultIsWrapped(t *testing.T) {
	for _, x := range []struct {
		v    api.Version
		want string
	}{
		{api.Version{}, "Item: too small"},
		{withItem(7), "Item: too great"},
		{withStamp(0, 0, 0), "S: no stamp of a write"},
		{withKeys(0, 0, 0, 0), "Attrs: too many"},
		{withKeys(1, 1), "Attrs: Key: too small"},
		{withKeys(4), "Attrs: Key: too great"},
		{withAttrs(api.Attr{Val: -1}), "Attrs: Val: too small"},
		{withAttrs(api.Attr{Val: 100}), "Attrs: Val: too great"},
		{withTag("AAAAAAA"), "Tag: too long"},
		{withTag("A"), "Tag: no letter"},
		{withBody("thirteen byte"), "Body: too long"},
		{dead("x"), "Body: of what is no more"},
	} {
		err := check(x.v)
		if err == nil || err.Error() != x.want {
			t.Errorf("%v, not %s", err, x.want)
		}
		var p inPart
		var f fault
		if !errors.As(err, &p) || !errors.As(err, &f) || !strings.HasPrefix(x.want, p.part+": ") || !strings.HasSuffix(x.want, ": "+f.why) {
			t.Errorf("%v: part %q, fault %q", err, p.part, f.why)
		}
	}
	if err := check(full()); err != nil {
		t.Error(err)
	}
}

// kin is versions of which no two are alike: full, and what differs of it in one thing.
func kin() []api.Version {
	return []api.Version{
		full(), {}, withItem(2), withItem(-3), withStamp(8, 2, 4), withStamp(7, 1, 4), withStamp(7, 2, 5),
		dead("\x00\xff twelve by"), dead(""), withBody(""), withBody("\x00"), withBody("\x00\xff twelve bz"), withBody("\x00\xff twelve bytes"),
		withTag(""), withTag("abmxy"), withTag("abmxyza"), withTag("Abmxyz"),
		withAttrs(), withAttrs(api.Attr{}), withAttrs(api.Attr{}, api.Attr{}), withAttrs(full().Attrs[:2]...), withAttrs(full().Attrs[1:]...),
		withAttrs(append(full().Attrs, api.Attr{Key: 4})...),
		withAttrs(api.Attr{Key: 0, Val: 98}, full().Attrs[1], full().Attrs[2]),
		withAttrs(api.Attr{Key: -1, Val: 99}, full().Attrs[1], full().Attrs[2]),
		withAttrs(full().Attrs[0], full().Attrs[1], api.Attr{Key: 3, Val: 51}),
		withAttrs(full().Attrs[0], full().Attrs[1], api.Attr{Key: 2, Val: 50}),
		withAttrs(full().Attrs[1], full().Attrs[0], full().Attrs[2]),
		withAttrs(api.Attr{Key: 0, Val: 99}, api.Attr{Key: 0, Val: 2}, full().Attrs[2]),
	}
}

func TestSameIsAlikeInAll(t *testing.T) {
	other := kin()
	for i, a := range kin() {
		for k, b := range other {
			if got := Same(a, b); got != (i == k) {
				t.Errorf("Same of %d and %d = %v", i, k, got)
			}
		}
	}
	// One and the same text, tag of one and body of the other.
	if Same(api.Version{Tag: "a"}, api.Version{Body: "a"}) {
		t.Error("a tag is no body")
	}
}

func TestNewerIsByStampAlone(t *testing.T) {
	stamps := []api.Stamp{{}}
	numbers := []int{math.MinInt, -1, 1, 2, 5000, math.MaxInt}
	for _, l := range numbers {
		for _, r := range numbers {
			for _, n := range numbers {
				stamps = append(stamps, api.Stamp{L: l, R: r, N: n})
			}
		}
	}
	for i, s := range stamps {
		for k, u := range stamps {
			a, b := full(), api.Version{Item: k % 7, Dead: k%2 == 0}
			a.S, b.S = s, u
			if got, want := Newer(a, b), stamp.Compare(s, u) == 1; got != want {
				t.Fatalf("Newer of %v and %v = %v", s, u, got)
			}
			if i > 0 && k > 0 && Newer(a, b) != (i > k) {
				t.Fatalf("%v and %v out of their row", s, u)
			}
		}
	}
	for _, x := range []struct {
		a, b api.Stamp
		want bool
	}{
		{api.Stamp{L: 5, R: 1, N: 1}, api.Stamp{L: 4, R: 2, N: 1}, true},
		{api.Stamp{L: 4, R: 2, N: 1}, api.Stamp{L: 5, R: 1, N: 1}, false},
		{api.Stamp{L: 4, R: 2, N: 1}, api.Stamp{L: 4, R: 1, N: 3}, true},
		{api.Stamp{L: 4, R: 2, N: 3}, api.Stamp{L: 4, R: 2, N: 2}, true},
		{api.Stamp{L: 4, R: 2, N: 3}, api.Stamp{L: 4, R: 2, N: 3}, false},
	} {
		if got := Newer(api.Version{Item: 1, S: x.a}, api.Version{Item: 1, S: x.b}); got != x.want {
			t.Errorf("Newer of %v and %v = %v", x.a, x.b, got)
		}
	}
}

func TestOfTwoOneIsNewerOrTheyAreOfOneWrite(t *testing.T) {
	for _, a := range kin() {
		for _, b := range kin() {
			ways := 0
			for _, holds := range []bool{Newer(a, b), Newer(b, a), a.S == b.S} {
				if holds {
					ways++
				}
			}
			if ways != 1 {
				t.Errorf("%v and %v: %d ways", a.S, b.S, ways)
			}
		}
	}
}

func TestAttr(t *testing.T) {
	several := []api.Attr{{Key: 2, Val: 8}, {Key: 1, Val: 4}, {Key: 2, Val: 9}, {Key: 1, Val: 0}, {Key: -5, Val: -6}, {Key: 3, Val: 0}, {Key: 3, Val: 7}, {Key: math.MaxInt, Val: math.MinInt}}
	for _, x := range []struct {
		l         []api.Attr
		key, want int
		ok        bool
	}{
		{nil, 0, 0, false},
		{[]api.Attr{}, 0, 0, false},
		{full().Attrs, -1, 0, false},
		{full().Attrs, 0, 99, true},
		{full().Attrs, 1, 0, false},
		{full().Attrs, 2, 0, true},
		{full().Attrs, 3, 50, true},
		{full().Attrs, 4, 0, false},
		{full().Attrs, 99, 0, false},
		{full().Attrs, math.MinInt, 0, false},
		{full().Attrs, math.MaxInt, 0, false},
		{several, 2, 8, true},
		{several, 1, 4, true},
		{several, 3, 0, true},
		{several, 0, 0, false},
		{several, -5, -6, true},
		{several, math.MaxInt, math.MinInt, true},
	} {
		if got, ok := Attr(withAttrs(x.l...), x.key); got != x.want || ok != x.ok {
			t.Errorf("Attr of %v, %d = %d, %v", x.l, x.key, got, ok)
		}
	}
}

func TestNilAndEmptyAreOne(t *testing.T) {
	a, b := withAttrs(), withAttrs()
	a.Attrs, b.Attrs = nil, []api.Attr{}
	if !May(a) || !May(b) || !Same(a, b) || !Same(b, a) {
		t.Error("nil and an empty list")
	}
}

func TestNothingHandedInIsChanged(t *testing.T) {
	room := []api.Attr{{Key: 2, Val: 8}, {Key: 1, Val: 4}, {Key: 2, Val: 9}, {Key: 0, Val: 100}, {Key: -7, Val: -7}}
	kept := slices.Clone(room)
	for count := range 4 {
		v := withAttrs()
		v.Attrs = room[:count]
		other := v
		other.Attrs = slices.Clone(v.Attrs)
		May(v)
		Newer(v, other)
		for key := -8; key < 8; key++ {
			Attr(v, key)
		}
		if !Same(v, other) || !Same(other, v) || !slices.Equal(room, kept) {
			t.Fatalf("changed: %v", room)
		}
	}
}
