package eval

import (
	"math"
	"reflect"
	"slices"
	"strconv"
	"strings"
	"testing"

	"cardamom/api"
	"cardamom/pars"
	"cardamom/vers"
)

func all() api.Filter { return api.Filter{Op: api.All} }

func eq(key, n int) api.Filter { return api.Filter{Op: api.Eq, Key: key, Lo: n, Hi: n} }

func within(key, lo, hi int) api.Filter {
	return api.Filter{Op: api.Range, Key: key, Lo: lo, Hi: hi}
}

func prefix(tag string) api.Filter { return api.Filter{Op: api.Prefix, Tag: tag} }

func not(f api.Filter) api.Filter { return api.Filter{Op: api.Not, Args: []api.Filter{f}} }

func and(a, b api.Filter) api.Filter { return api.Filter{Op: api.And, Args: []api.Filter{a, b}} }

func or(a, b api.Filter) api.Filter { return api.Filter{Op: api.Or, Args: []api.Filter{a, b}} }

// with is a version of that tag and those attributes.
func with(tag string, l ...api.Attr) api.Version {
	return api.Version{Item: 2, S: api.Stamp{L: 5, R: 2, N: 3}, Attrs: l, Tag: tag, Body: "body"}
}

func attr(key, val int) api.Attr { return api.Attr{Key: key, Val: val} }

// wantLets holds Lets of what may be, both, against want.
func wantLets(t *testing.T, f api.Filter, v api.Version, want bool) {
	t.Helper()
	if !pars.May(f) || !vers.May(v) {
		t.Fatalf("%v or %v may not be", f, v)
	}
	if Lets(f, v) != want {
		t.Errorf("Lets(%v, %v) = %v", f, v, !want)
	}
}

func wantText(t *testing.T, text string, v api.Version, want bool) {
	t.Helper()
	f, at, ok := pars.Parse(text)
	if !ok {
		t.Fatalf("%q fails at %d", text, at)
	}
	if Lets(f, v) != want {
		t.Errorf("Lets of %q, %v = %v", text, v, !want)
	}
}

func TestLetsOfAll(t *testing.T) {
	for _, v := range some() {
		wantLets(t, all(), v, true)
		wantLets(t, not(all()), v, false)
	}
}

func TestLetsAtEachEndOfARange(t *testing.T) {
	v := with("", attr(1, 50))
	for _, x := range []struct {
		lo, hi int
		want   bool
	}{
		{50, 50, true}, {49, 49, false}, {51, 51, false},
		{50, 51, true}, {49, 50, true}, {49, 51, true},
		{51, 52, false}, {48, 49, false},
		{0, 99, true}, {0, 50, true}, {50, 99, true}, {0, 49, false}, {51, 99, false}, {0, 0, false}, {99, 99, false},
	} {
		wantLets(t, within(1, x.lo, x.hi), v, x.want)
		wantLets(t, within(0, x.lo, x.hi), v, false)
		wantLets(t, within(2, x.lo, x.hi), v, false)
	}
	for n := range api.MaxNum + 1 {
		wantLets(t, eq(1, n), v, n == 50)
		wantLets(t, eq(0, n), v, false)
	}
	for _, x := range []struct {
		val, lo, hi int
		want        bool
	}{
		{0, 0, 0, true}, {0, 0, 99, true}, {0, 1, 99, false}, {1, 0, 0, false},
		{99, 99, 99, true}, {99, 0, 99, true}, {99, 0, 98, false}, {98, 99, 99, false},
	} {
		wantLets(t, within(3, x.lo, x.hi), with("", attr(3, x.val)), x.want)
	}
}

// Each range there may be, and each value, counted on from Lo instead of held against both ends.
func TestLetsOfEachRange(t *testing.T) {
	for lo := range api.MaxNum + 1 {
		for hi := lo; hi <= api.MaxNum; hi++ {
			var in [api.MaxNum + 1]bool
			for n := lo; n <= hi; n++ {
				in[n] = true
			}
			for n, want := range in {
				if Lets(within(2, lo, hi), with("", attr(2, n))) != want {
					t.Fatalf("%d from %d to %d: %v", n, lo, hi, !want)
				}
			}
		}
	}
}

// Each set of keys that a version may have, each value other, and each key that is asked for.
func TestLetsOfEachKey(t *testing.T) {
	for set := range 1 << api.MaxKey {
		var l []api.Attr
		for key := range api.MaxKey {
			if set>>key&1 == 1 {
				l = append(l, attr(key, 20*key))
			}
		}
		if len(l) > api.MaxAttr {
			continue
		}
		for key := range api.MaxKey {
			has := set>>key&1 == 1
			wantLets(t, within(key, 0, api.MaxNum), with("", l...), has)
			wantLets(t, not(within(key, 0, api.MaxNum)), with("", l...), !has)
			for other := range api.MaxKey {
				wantLets(t, eq(key, 20*other), with("", l...), has && other == key)
				wantLets(t, not(eq(key, 20*other)), with("", l...), !has || other != key)
			}
		}
	}
}

func TestLetsOfPrefix(t *testing.T) {
	for _, x := range []struct {
		prefix, tag string
		want        bool
	}{
		{"a", "", false}, {"a", "a", true}, {"a", "b", false}, {"a", "ab", true}, {"a", "ba", false},
		{"ab", "a", false}, {"ab", "ab", true}, {"ab", "abc", true}, {"ab", "aab", false}, {"ab", "cab", false}, {"ab", "b", false},
		{"ab", "ba", false}, {"ab", "aa", false}, {"ab", "ac", false}, {"b", "a", false}, {"b", "c", false},
		{"abcdef", "abcdef", true}, {"abcdef", "abcde", false}, {"abcde", "abcdef", true}, {"abcdef", "abcdeg", false}, {"abcdef", "bbcdef", false},
		{"zzzzzz", "zzzzzz", true}, {"z", "zzzzzz", true}, {"zzzzzz", "z", false},
	} {
		wantLets(t, prefix(x.prefix), with(x.tag), x.want)
		wantLets(t, not(prefix(x.prefix)), with(x.tag), !x.want)
	}
}

// Each pair of tags of two letters: a tag begins with those that it is cut down to.
func TestLetsOfEachPrefix(t *testing.T) {
	tags := []string{""}
	for i := 0; len(tags[i]) < api.MaxTag; i++ {
		tags = append(tags, tags[i]+"a", tags[i]+"b")
	}
	if len(tags) != 127 {
		t.Fatalf("%d tags", len(tags))
	}
	for _, tag := range tags {
		begins := map[string]int{}
		for cut := tag; cut != ""; cut = cut[:len(cut)-1] {
			begins[cut] = 1
		}
		for _, begin := range tags[1:] {
			wantLets(t, prefix(begin), with(tag), begins[begin] == 1)
		}
	}
}

// A body, a stamp or an attribute is no tag, and the other way round.
func TestEachLooksAtItsOwnPart(t *testing.T) {
	v := with("", attr(1, 2))
	v.Body = "abc"
	wantLets(t, prefix("a"), v, false)
	wantLets(t, eq(2, 1), v, false)
	wantLets(t, eq(2, 5), v, false)
	wantLets(t, eq(0, 2), v, false)
	wantLets(t, eq(1, 2), v, true)
}

func TestLetsOfAndOrNot(t *testing.T) {
	v := with("")
	yes, no := all(), not(all())
	for _, x := range []struct {
		f    api.Filter
		want bool
	}{
		{yes, true}, {no, false}, {not(yes), false}, {not(no), true},
		{and(yes, yes), true}, {and(yes, no), false}, {and(no, yes), false}, {and(no, no), false},
		{or(yes, yes), true}, {or(yes, no), true}, {or(no, yes), true}, {or(no, no), false},
		{not(and(yes, no)), true}, {not(and(yes, yes)), false}, {not(or(no, no)), true}, {not(or(no, yes)), false},
		{and(or(no, yes), or(yes, no)), true}, {or(and(no, yes), and(yes, no)), false},
		{and(or(no, yes), no), false}, {or(and(no, yes), yes), true}, {and(no, or(yes, yes)), false}, {or(yes, and(no, no)), true},
	} {
		wantLets(t, x.f, v, x.want)
	}
}

func TestLetsOfTexts(t *testing.T) {
	v := with("abc", attr(0, 0), attr(1, 5), attr(3, 99))
	for _, x := range []struct {
		text       string
		want, bare bool
	}{
		{"*", true, true}, {"!*", false, false},
		{"@1=5", true, false}, {"!@1=5", false, true}, {"!@1=6", true, true}, {"!@2=5", true, true},
		{"@0=0", true, false}, {"@2=0", false, false}, {"@2:0-99", false, false}, {"@3:0-98", false, false}, {"@3:99-99", true, false},
		{"^ab&!@1=5", false, false}, {"^ab&@1=5", true, false}, {"^b|@1=5", true, false}, {"^b|!@1=5", false, true},
		{"^b|^a&@1=4", false, false}, {"(^b|^a)&@1=5", true, false}, {"!(^b|@1=4)", true, true}, {"!(^a&@1=5)", false, true},
		{"@0:0-1&@1:4-5&@3:98-99&^abc", true, false}, {"!@0=0|!@1=5|!@3=99|!^abc", false, true},
	} {
		wantText(t, x.text, v, x.want)
		wantText(t, x.text, with(""), x.bare)
	}
	// The chapter's example: what has no attribute 1 is let through.
	wantText(t, "! @1=5", with("", attr(0, 5), attr(2, 5)), true)
	wantText(t, "! @1=5", with("", attr(1, 4)), true)
	wantText(t, "! @1=5", with("", attr(1, 5)), false)
}

// some is versions of which each may be: attributes there or not, at and beside the ends of what leaves asks for; tags.
func some() []api.Version {
	var l []api.Version
	for _, tag := range []string{"", "a", "ab", "b"} {
		for _, n := range []int{-1, 4, 5, 7, 8} {
			for _, m := range []int{-1, 0, 1} {
				v := with(tag)
				if n >= 0 {
					v.Attrs = append(v.Attrs, attr(1, n))
				}
				if m >= 0 {
					v.Attrs = append(v.Attrs, attr(2, m))
				}
				l = append(l, v)
			}
		}
	}
	return l
}

// sorted is a filter, with the set of those of some that it lets through (bit i: some()[i]).
type sorted struct {
	f   api.Filter
	set uint64
}

// leaves is filters without Args, whose sets are told by parts that are looked at here, without Lets.
func leaves() []sorted {
	tell := func(f api.Filter, in func(tag, attrs string) bool) sorted {
		x := sorted{f: f}
		for i, v := range some() {
			attrs := ""
			for _, a := range v.Attrs {
				attrs += "@" + strconv.Itoa(a.Key) + "=" + strconv.Itoa(a.Val) + ";"
			}
			if in(v.Tag, attrs) {
				x.set |= 1 << i
			}
		}
		return x
	}
	return []sorted{
		tell(all(), func(tag, attrs string) bool { return true }),
		tell(eq(2, 0), func(tag, attrs string) bool { return strings.Contains(attrs, "@2=0;") }),
		tell(within(1, 5, 7), func(tag, attrs string) bool {
			return strings.Contains(attrs, "@1=5;") || strings.Contains(attrs, "@1=7;")
		}),
		tell(prefix("a"), func(tag, attrs string) bool { return tag == "a" || tag == "ab" }),
		tell(prefix("ab"), func(tag, attrs string) bool { return tag == "ab" }),
	}
}

// grown is l, and what one operation makes of them.
func grown(l []sorted) []sorted {
	var everything uint64 = 1<<len(some()) - 1
	out := slices.Clone(l)
	for _, a := range l {
		out = append(out, sorted{not(a.f), everything &^ a.set})
		for _, b := range l {
			out = append(out, sorted{and(a.f, b.f), a.set & b.set}, sorted{or(a.f, b.f), a.set | b.set})
		}
	}
	return out
}

// All filters of up to three parts' depth out of some leaves, and sets instead of yes and no.
func TestLetsIsASetOfVersions(t *testing.T) {
	if len(some()) != 60 {
		t.Fatalf("%d versions", len(some()))
	}
	l := grown(grown(leaves()))
	if len(l) < 7000 {
		t.Fatalf("%d filters", len(l))
	}
	for _, x := range l {
		for i, v := range some() {
			if want := x.set>>i&1 == 1; Lets(x.f, v) != want {
				t.Fatalf("Lets(%v, %v) = %v", x.f, v, !want)
			}
		}
	}
}

// Filters of each depth up to MaxDeep, made by a rule that runs through many.
func TestLetsOfDeepFilters(t *testing.T) {
	state := 1
	next := func(below int) int {
		state = state * 48271 % (1<<31 - 1)
		return state % below
	}
	var everything uint64 = 1<<len(some()) - 1
	var build func(deep int) sorted
	build = func(deep int) sorted {
		if deep == 1 {
			l := leaves()
			return l[next(len(l))]
		}
		a := build(deep - 1)
		if next(3) == 0 {
			return sorted{not(a.f), everything &^ a.set}
		}
		b := build(1 + next(deep-1))
		if next(2) == 0 {
			a, b = b, a
		}
		if next(2) == 0 {
			return sorted{and(a.f, b.f), a.set & b.set}
		}
		return sorted{or(a.f, b.f), a.set | b.set}
	}
	for round := range 1200 {
		x := build(1 + round%api.MaxDeep)
		for i, v := range some() {
			wantLets(t, x.f, v, x.set>>i&1 == 1)
		}
		if t.Failed() {
			return
		}
	}
}

// As deep as may be, one leaf at the far end decides, on whichever side it is.
func TestLetsAtTheGreatestDepth(t *testing.T) {
	for _, has := range []bool{true, false} {
		v := with("")
		if has {
			v.Attrs = []api.Attr{attr(1, 5)}
		}
		f, left, right, leftOr, rightOr := eq(1, 5), eq(1, 5), eq(1, 5), eq(1, 5), eq(1, 5)
		want := has
		for range api.MaxDeep - 1 {
			f, want = not(f), !want
			left, right = and(left, all()), and(all(), right)
			leftOr, rightOr = or(leftOr, prefix("a")), or(prefix("a"), rightOr)
			wantLets(t, f, v, want)
			for _, one := range []api.Filter{left, right, leftOr, rightOr} {
				wantLets(t, one, v, has)
			}
		}
		if pars.May(not(f)) || pars.May(or(left, right)) {
			t.Error("one deeper may be too")
		}
	}
	// A whole tree of pairs, of which one leaf is another than all others.
	for place := range 32 {
		wantLets(t, tree(api.And, all(), eq(1, 5), place, 32), with("", attr(1, 5)), true)
		wantLets(t, tree(api.And, all(), eq(1, 5), place, 32), with("", attr(1, 6)), false)
		wantLets(t, tree(api.Or, prefix("a"), eq(1, 5), place, 32), with("", attr(1, 5)), true)
		wantLets(t, tree(api.Or, prefix("a"), eq(1, 5), place, 32), with("", attr(1, 6)), false)
	}
}

// tree is pairs of so many leaves, of which the one at place is other.
func tree(op int, leaf, other api.Filter, place, leaves int) api.Filter {
	if leaves == 1 {
		if place == 0 {
			return other
		}
		return leaf
	}
	half := leaves / 2
	return api.Filter{Op: op, Args: []api.Filter{tree(op, leaf, other, place, half), tree(op, leaf, other, place-half, half)}}
}

func TestLetsHangsOnAttributesAndTagAlone(t *testing.T) {
	turns := []func(v *api.Version){
		func(v *api.Version) { v.Dead, v.Body = true, "" },
		func(v *api.Version) { v.Body = "" },
		func(v *api.Version) { v.Body = "ab\x00\xff@1=5" },
		func(v *api.Version) { v.Item = 1 },
		func(v *api.Version) { v.Item = 6 },
		func(v *api.Version) { v.S = api.Stamp{L: 5000, R: 5, N: 1000} },
		func(v *api.Version) { v.S = api.Stamp{L: 1, R: 1, N: 1} },
		func(v *api.Version) { v.Item, v.S, v.Dead, v.Body = 5, api.Stamp{L: 9, R: 3, N: 9}, true, "" },
	}
	for _, x := range grown(leaves()) {
		for i, v := range some() {
			for _, turn := range turns {
				turned := v
				turn(&turned)
				wantLets(t, x.f, turned, x.set>>i&1 == 1)
			}
		}
	}
}

func TestNilAndEmptyAreOne(t *testing.T) {
	bare := with("")
	bare.Attrs = []api.Attr{}
	none := with("")
	none.Attrs = nil
	for _, x := range grown(leaves()) {
		if Lets(x.f, bare) != Lets(x.f, none) {
			t.Errorf("%v: nil and an empty list of attributes", x.f)
		}
	}
	for _, x := range leaves() {
		f := x.f
		f.Args = []api.Filter{}
		for i, v := range some() {
			wantLets(t, f, v, x.set>>i&1 == 1)
		}
	}
}

func TestWhatIsNoOpLetsNothingThrough(t *testing.T) {
	for _, op := range []int{math.MinInt, -1, 0, 8, 9, 1 << 8, 1<<8 + 1, 1<<32 + 1, math.MaxInt} {
		for args := range 4 {
			f := api.Filter{Op: op, Hi: api.MaxNum}
			for range args {
				f.Args = append(f.Args, all())
			}
			for _, v := range some() {
				if Lets(f, v) {
					t.Errorf("Op %d of %d Args lets %v through", op, args, v)
				}
			}
		}
	}
}

// What may not be has no answer that is promised, but there is one.
func TestLetsOfWrongInputs(t *testing.T) {
	long := strings.Repeat("a", 1<<20)
	versions := append(some(), api.Version{}, with(long), with("\xff\x00é"), with("", make([]api.Attr, 1<<16)...),
		with("", attr(math.MinInt, math.MaxInt), attr(math.MaxInt, math.MinInt), attr(-1, -1)))
	for op := -2; op <= 10; op++ {
		for _, args := range [][]api.Filter{nil, {}, {all()}, {{}}, {all(), {}}, {{}, all(), not(all())}, make([]api.Filter, 1<<12)} {
			for _, n := range []int{math.MinInt, -1, 0, 4, 100, math.MaxInt} {
				f := api.Filter{Op: op, Key: n, Lo: n, Hi: math.MaxInt, Tag: long, Args: args}
				for _, v := range versions {
					Lets(f, v)
					Lets(not(f), v)
					Lets(and(all(), f), v)
				}
			}
		}
	}
	// Of several attributes of one key the first counts, as vers.Attr tells.
	if !Lets(eq(1, 5), with("", attr(1, 5), attr(1, 6))) || Lets(eq(1, 6), with("", attr(1, 5), attr(1, 6))) {
		t.Error("several attributes of one key")
	}
}

// Filters that hold themselves, or one list in very many places, or very deep.
func TestLetsEnds(t *testing.T) {
	for op := range 10 {
		for size := range 5 {
			ring := make([]api.Filter, size)
			for i := range ring {
				ring[i] = api.Filter{Op: op, Args: ring}
			}
			Lets(api.Filter{Op: op, Args: ring}, with("a"))
			shared, deep := all(), all()
			for range 1000 {
				shared = api.Filter{Op: op, Args: slices.Repeat([]api.Filter{shared}, size)}
			}
			for range 1 << 17 {
				deep = api.Filter{Op: op, Args: []api.Filter{deep}}
			}
			Lets(shared, with("a"))
			Lets(deep, with("a"))
		}
	}
}

func TestNothingHandedInIsChanged(t *testing.T) {
	attrs := []api.Attr{attr(1, 5), attr(2, 0), attr(3, 7), attr(0, 1)}
	args := []api.Filter{not(eq(1, 5)), prefix("a"), within(2, 0, 4), not(all())}
	inner := []api.Filter{and(eq(1, 5), all()), or(all(), prefix("b")), not(all())}
	keptAttrs, keptArgs, keptInner := slices.Clone(attrs), slices.Clone(args), slices.Clone(inner)
	for op := range 9 {
		for size := range 4 {
			f := api.Filter{Op: op, Key: 1, Lo: 5, Hi: 5, Tag: "a", Args: args[:size]}
			g := api.Filter{Op: op, Args: inner[:min(size, 2)]}
			v := with("ab")
			v.Attrs = attrs[:size]
			Lets(f, v)
			Lets(g, v)
			if !slices.Equal(attrs, keptAttrs) || !reflect.DeepEqual(args, keptArgs) || !reflect.DeepEqual(inner, keptInner) {
				t.Fatalf("changed: Op %d, %d Args", op, size)
			}
		}
	}
	if !reflect.DeepEqual(args, []api.Filter{not(eq(1, 5)), prefix("a"), within(2, 0, 4), not(all())}) {
		t.Error("changed within")
	}
}
