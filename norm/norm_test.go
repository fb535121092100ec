package norm

import (
	"math"
	"reflect"
	"slices"
	"strconv"
	"strings"
	"testing"
	"unsafe"

	"cardamom/api"
	"cardamom/eval"
	"cardamom/pars"
	"cardamom/vers"
)

func all() api.Filter { return api.Filter{Op: api.All} }

func eq(key, n int) api.Filter { return api.Filter{Op: api.Eq, Key: key, Lo: n, Hi: n} }

func within(key, lo, hi int) api.Filter {
	return api.Filter{Op: api.Range, Key: key, Lo: lo, Hi: hi}
}

func prefix(tag string) api.Filter { return api.Filter{Op: api.Prefix, Tag: tag} }

func not(f api.Filter) api.Filter { return api.Filter{Op: api.Not, Args: []api.Filter{f}} }

func and(a, b api.Filter) api.Filter { return api.Filter{Op: api.And, Args: []api.Filter{a, b}} }

func or(a, b api.Filter) api.Filter { return api.Filter{Op: api.Or, Args: []api.Filter{a, b}} }

// balanced is a filter of all of l, in that order, no deeper than it must be.
func balanced(op int, l ...api.Filter) api.Filter {
	if len(l) == 1 {
		return l[0]
	}
	half := (len(l) + 1) / 2
	return api.Filter{Op: op, Args: []api.Filter{balanced(op, l[:half]...), balanced(op, l[half:]...)}}
}

// anyOf is Or of n filters of one box each: of key, from lo on.
func anyOf(key, lo, n int) api.Filter {
	var l []api.Filter
	for i := range n {
		l = append(l, eq(key, lo+i))
	}
	return balanced(api.Or, l...)
}

func attr(key, val int) api.Attr { return api.Attr{Key: key, Val: val} }

// with is a version of that tag and those attributes.
func with(tag string, l ...api.Attr) api.Version {
	return api.Version{Item: 2, S: api.Stamp{L: 5, R: 2, N: 3}, Attrs: l, Tag: tag, Body: "body"}
}

// side is a box of one key alone.
func side(key, how, lo, hi int) (b api.Box) {
	b.Keys[key] = api.Side{How: how, Lo: lo, Hi: hi}
	return b
}

func tagged(tag string, nots ...string) api.Box { return api.Box{Tag: tag, Nots: nots} }

func alike(a, b api.Box) bool {
	return a.Keys == b.Keys && a.Tag == b.Tag && slices.Equal(a.Nots, b.Nots)
}

// text is a box in words: 1:4-5 of what must be there, 1:no of what must not, ^a of its Tag, !a of one of Nots, * of nothing.
func text(b api.Box) string {
	var l []string
	for key, s := range b.Keys {
		switch {
		case s.How == 1:
			l = append(l, strconv.Itoa(key)+":"+strconv.Itoa(s.Lo)+"-"+strconv.Itoa(s.Hi))
		case s == api.Side{How: 2}:
			l = append(l, strconv.Itoa(key)+":no")
		case s != api.Side{}:
			l = append(l, strconv.Itoa(key)+":odd")
		}
	}
	if b.Tag != "" {
		l = append(l, "^"+b.Tag)
	}
	for _, n := range b.Nots {
		l = append(l, "!"+n)
	}
	if l == nil {
		return "*"
	}
	return strings.Join(l, " ")
}

func texts(l []api.Box) string {
	var out []string
	for _, b := range l {
		out = append(out, text(b))
	}
	return strings.Join(out, "; ")
}

func wantLets(t *testing.T, b api.Box, v api.Version, want bool) {
	t.Helper()
	if Lets(b, v) != want {
		t.Errorf("Lets(%v, %v) = %v", b, v, !want)
	}
}

// wantMeet holds Meet, both ways round, against want.
func wantMeet(t *testing.T, a, b, want api.Box) {
	t.Helper()
	if got, ok := Meet(a, b); !ok || !alike(got, want) {
		t.Errorf("Meet(%v, %v) = %v, %v, not %v", a, b, got, ok, want)
	}
	if got, ok := Meet(b, a); !ok || !alike(got, want) {
		t.Errorf("Meet(%v, %v) = %v, %v, not %v", b, a, got, ok, want)
	}
}

func wantNoMeet(t *testing.T, a, b api.Box) {
	t.Helper()
	if got, ok := Meet(a, b); ok || !reflect.DeepEqual(got, api.Box{}) {
		t.Errorf("Meet(%v, %v) = %v, %v", a, b, got, ok)
	}
	if got, ok := Meet(b, a); ok || !reflect.DeepEqual(got, api.Box{}) {
		t.Errorf("Meet(%v, %v) = %v, %v", b, a, got, ok)
	}
}

// wantRow holds Of of what may be against the boxes' texts.
func wantRow(t *testing.T, f api.Filter, want string) {
	t.Helper()
	if !pars.May(f) {
		t.Fatalf("%v may not be", f)
	}
	if got, ok := Of(f); !ok || texts(got) != want {
		t.Errorf("Of(%v) = %q, %v, not %q", f, texts(got), ok, want)
	}
}

func wantCount(t *testing.T, f api.Filter, want int) {
	t.Helper()
	if !pars.May(f) {
		t.Fatalf("%v may not be", f)
	}
	if got, ok := Of(f); !ok || len(got) != want {
		t.Errorf("Of(%v) = %q, %v, not %d boxes", f, texts(got), ok, want)
	}
}

func wantTooMany(t *testing.T, f api.Filter) {
	t.Helper()
	if !pars.May(f) {
		t.Fatalf("%v may not be", f)
	}
	if got, ok := Of(f); ok || got != nil {
		t.Errorf("Of(%v) = %q, %v", f, texts(got), ok)
	}
}

// tagsOfTwoLetters is all tags of a and b, the empty one first.
func tagsOfTwoLetters() []string {
	l := []string{""}
	for i := 0; len(l[i]) < api.MaxTag; i++ {
		l = append(l, l[i]+"a", l[i]+"b")
	}
	return l
}

// beginnings is all that a tag can be cut down to.
func beginnings(tag string) map[string]int {
	m := map[string]int{"": 1}
	for ; tag != ""; tag = tag[:len(tag)-1] {
		m[tag] = 1
	}
	return m
}

func TestLetsAtEachEndOfARange(t *testing.T) {
	for key := range api.MaxKey {
		for _, x := range []struct {
			lo, hi, val int
			want        bool
		}{
			{40, 60, 39, false}, {40, 60, 40, true}, {40, 60, 41, true}, {40, 60, 59, true}, {40, 60, 60, true}, {40, 60, 61, false},
			{50, 50, 49, false}, {50, 50, 50, true}, {50, 50, 51, false},
			{0, 99, 0, true}, {0, 99, 99, true}, {1, 99, 0, false}, {0, 98, 99, false}, {0, 0, 0, true}, {0, 0, 1, false}, {99, 99, 99, true}, {99, 99, 98, false},
		} {
			wantLets(t, side(key, 1, x.lo, x.hi), with("", attr(key, x.val)), x.want)
			wantLets(t, side(key, 1, x.lo, x.hi), with("", attr((key+1)%api.MaxKey, x.val)), false)
			wantLets(t, side(key, 1, x.lo, x.hi), with(""), false)
		}
	}
}

// Each range there may be, and each value, counted on from Lo instead of held against both ends.
func TestLetsOfEachRange(t *testing.T) {
	for lo := range api.MaxNum + 1 {
		for hi := lo; hi <= api.MaxNum; hi++ {
			var in [api.MaxNum + 1]bool
			for n := lo; n <= hi; n++ {
				in[n] = true
			}
			for n, want := range in {
				if Lets(side(2, 1, lo, hi), with("", attr(2, n))) != want {
					t.Fatalf("%d from %d to %d: %v", n, lo, hi, !want)
				}
			}
		}
	}
}

// Each set of keys that a version may have, each How of each key: a key decides of itself alone.
func TestLetsOfEachHowOfEachKey(t *testing.T) {
	for set := range 1 << api.MaxKey {
		var l []api.Attr
		for key := range api.MaxKey {
			if set>>key&1 == 1 {
				l = append(l, attr(key, 20*key))
			}
		}
		if len(l) > api.MaxAttr {
			continue
		}
		for hows := range 81 {
			var b api.Box
			want := true
			for key, left := 0, hows; key < api.MaxKey; key, left = key+1, left/3 {
				has := set>>key&1 == 1
				switch left % 3 {
				case 1:
					b.Keys[key] = api.Side{How: 1, Lo: 20 * key, Hi: 20 * key}
					want = want && has
				case 2:
					b.Keys[key] = api.Side{How: 2}
					want = want && !has
				}
			}
			wantLets(t, b, with("", l...), want)
		}
	}
}

func TestLetsOfTagAndNots(t *testing.T) {
	for _, x := range []struct {
		b    api.Box
		tag  string
		want bool
	}{
		{tagged(""), "", true}, {tagged(""), "abcdef", true}, {tagged("a"), "", false}, {tagged("a"), "a", true}, {tagged("a"), "ab", true}, {tagged("a"), "ba", false},
		{tagged("ab"), "a", false}, {tagged("ab"), "ac", false}, {tagged("abcdef"), "abcdef", true}, {tagged("abcdef"), "abcde", false},
		{tagged("", "a"), "", true}, {tagged("", "a"), "a", false}, {tagged("", "a"), "ab", false}, {tagged("", "a"), "ba", true}, {tagged("", "ab"), "a", true},
		{tagged("", "a", "c"), "b", true}, {tagged("", "a", "c"), "c", false}, {tagged("", "a", "c"), "a", false}, {tagged("", "a", "b", "c"), "bx", false},
		{tagged("", "c", "a"), "a", false}, {tagged("", "c", "a", "c"), "cc", false}, {tagged("", "c", "a", "c"), "bc", true},
		{tagged("a", "ab"), "a", true}, {tagged("a", "ab"), "ab", false}, {tagged("a", "ab"), "abc", false}, {tagged("a", "ab"), "ac", true}, {tagged("a", "ab"), "b", false},
		{tagged("ab", "a"), "ab", false}, {tagged("ab", "ab"), "ab", false}, {tagged("ab", "x"), "abx", true},
	} {
		wantLets(t, x.b, with(x.tag), x.want)
	}
}

// Each pair of tags of two letters: a tag begins with those that it is cut down to.
func TestLetsOfEachTag(t *testing.T) {
	tags := tagsOfTwoLetters()
	for _, tag := range tags {
		begins := beginnings(tag)
		for _, begin := range tags {
			wantLets(t, tagged(begin), with(tag), begins[begin] == 1)
			wantLets(t, tagged("", begin), with(tag), begins[begin] == 0)
			wantLets(t, tagged("", "x", begin), with(tag), begins[begin] == 0)
			wantLets(t, tagged("a", begin), with(tag), begins["a"] == 1 && begins[begin] == 0)
		}
	}
}

// A tag that fits does not make up for a key that does not, nor the other way round.
func TestLetsAsksForAll(t *testing.T) {
	b := tagged("a", "ab")
	b.Keys = [api.MaxKey]api.Side{{How: 1, Lo: 3, Hi: 4}, {How: 2}, {}, {How: 1, Lo: 9, Hi: 9}}
	for _, x := range []struct {
		v    api.Version
		want bool
	}{
		{with("a", attr(0, 3), attr(3, 9)), true}, {with("ac", attr(0, 4), attr(2, 50), attr(3, 9)), true},
		{with("ab", attr(0, 3), attr(3, 9)), false}, {with("", attr(0, 3), attr(3, 9)), false}, {with("a", attr(0, 2), attr(3, 9)), false}, {with("a", attr(0, 5), attr(3, 9)), false},
		{with("a", attr(0, 3), attr(3, 8)), false}, {with("a", attr(0, 3)), false}, {with("a", attr(3, 9)), false}, {with("a", attr(0, 3), attr(1, 0), attr(3, 9)), false},
	} {
		if !vers.May(x.v) {
			t.Fatalf("%v may not be", x.v)
		}
		wantLets(t, b, x.v, x.want)
	}
}

func TestLetsHangsOnAttributesAndTagAlone(t *testing.T) {
	for _, b := range someBoxes() {
		for _, v := range someVersions() {
			turned := v
			turned.Item, turned.S, turned.Dead, turned.Body = 6, api.Stamp{L: 900, R: 5, N: 77}, true, ""
			wantLets(t, b, turned, Lets(b, v))
		}
	}
}

// What is there is there, though its value be beyond the limits; of several of one key the first counts.
func TestLetsOfValuesBeyondTheLimits(t *testing.T) {
	for _, n := range []int{math.MinInt, -1, 100, math.MaxInt} {
		v := with("", attr(1, n))
		wantLets(t, side(1, 0, 0, 0), v, true)
		wantLets(t, side(1, 1, 0, 99), v, false)
		wantLets(t, side(1, 1, n, n), v, true)
		wantLets(t, side(1, 2, 0, 0), v, false)
		wantLets(t, side(0, 2, 0, 0), v, true)
	}
	twice := with("", attr(1, 5), attr(1, 6))
	wantLets(t, side(1, 1, 5, 5), twice, true)
	wantLets(t, side(1, 1, 6, 6), twice, false)
	// Lo and Hi say something of How 1 alone.
	for _, how := range []int{0, 2} {
		wantLets(t, side(1, how, 5, 6), with("", attr(1, 9)), how == 0)
		wantLets(t, side(1, how, 5, 6), with("", attr(1, 5)), how == 0)
		wantLets(t, side(1, how, 5, 6), with(""), true)
	}
	wantLets(t, side(1, 1, 6, 5), with("", attr(1, 5)), false)
}

// sides is all that may be asked of a key by ends out of a few numbers, each with the set of what it lets through: at 0 that there is none, at n + 1 the number n.
func sides() map[api.Side][api.MaxNum + 2]bool {
	m := map[api.Side][api.MaxNum + 2]bool{}
	var every, none [api.MaxNum + 2]bool
	for i := range every {
		every[i] = true
	}
	none[0] = true
	m[api.Side{}], m[api.Side{How: 2}] = every, none
	ends := []int{0, 1, 2, 49, 50, 51, 97, 98, 99}
	for i, lo := range ends {
		for _, hi := range ends[i:] {
			var in [api.MaxNum + 2]bool
			for n := lo; n <= hi; n++ {
				in[n+1] = true
			}
			m[api.Side{How: 1, Lo: lo, Hi: hi}] = in
		}
	}
	return m
}

// What two ask of a key, both, is what is in both sets; each set is of one side.
func TestMeetOfEachTwoSides(t *testing.T) {
	m := sides()
	if len(m) != 47 {
		t.Fatalf("%d sides", len(m))
	}
	of := map[[api.MaxNum + 2]bool]api.Side{}
	for s, set := range m {
		of[set] = s
	}
	for a, setA := range m {
		for b, setB := range m {
			var both [api.MaxNum + 2]bool
			some := false
			for i := range both {
				both[i] = setA[i] && setB[i]
				some = some || both[i]
			}
			want, known := of[both]
			if some != known {
				t.Fatalf("%v and %v: no side known", a, b)
			}
			for key := range api.MaxKey {
				one, other := side(key, a.How, a.Lo, a.Hi), side(key, b.How, b.Lo, b.Hi)
				if some {
					wantMeet(t, one, other, side(key, want.How, want.Lo, want.Hi))
				} else {
					wantNoMeet(t, one, other)
				}
			}
		}
	}
}

func TestMeetOfKeys(t *testing.T) {
	wantMeet(t, side(1, 1, 2, 9), side(1, 1, 9, 20), side(1, 1, 9, 9))
	wantNoMeet(t, side(1, 1, 2, 9), side(1, 1, 10, 20))
	wantMeet(t, side(1, 1, 2, 9), side(1, 1, 3, 8), side(1, 1, 3, 8))
	wantNoMeet(t, side(1, 1, 0, 99), side(1, 2, 0, 0))
	// Each key goes by itself.
	var a, b, want api.Box
	a.Keys = [api.MaxKey]api.Side{{How: 1, Lo: 3, Hi: 9}, {How: 2}, {}, {}}
	b.Keys = [api.MaxKey]api.Side{{How: 1, Lo: 5, Hi: 20}, {How: 2}, {How: 1, Lo: 1, Hi: 1}, {}}
	want.Keys = [api.MaxKey]api.Side{{How: 1, Lo: 5, Hi: 9}, {How: 2}, {How: 1, Lo: 1, Hi: 1}, {}}
	wantMeet(t, a, b, want)
	// One key without a Meet is enough, whichever.
	for key := range api.MaxKey {
		one, other := a, b
		one.Keys[key], other.Keys[key] = api.Side{How: 1, Lo: 4, Hi: 4}, api.Side{How: 1, Lo: 5, Hi: 5}
		wantNoMeet(t, one, other)
		one.Keys[key], other.Keys[key] = api.Side{How: 1, Lo: 4, Hi: 4}, api.Side{How: 2}
		wantNoMeet(t, one, other)
	}
}

func TestMeetOfTags(t *testing.T) {
	wantMeet(t, tagged("ab"), tagged("abc"), tagged("abc"))
	wantMeet(t, tagged("ab"), tagged("ab"), tagged("ab"))
	wantNoMeet(t, tagged("ab"), tagged("ac"))
	wantNoMeet(t, tagged("b"), tagged("ab"))
	tags := tagsOfTwoLetters()
	for _, one := range tags {
		for _, other := range tags {
			switch {
			case beginnings(one)[other] == 1:
				wantMeet(t, tagged(one), tagged(other), tagged(one))
			case beginnings(other)[one] == 1:
				wantMeet(t, tagged(one), tagged(other), tagged(other))
			default:
				wantNoMeet(t, tagged(one), tagged(other))
			}
		}
	}
}

func TestMeetOfNots(t *testing.T) {
	wantMeet(t, tagged("", "b", "d"), tagged("", "a", "b", "c"), tagged("", "a", "b", "c", "d"))
	// Each is kept, though another begin it, or the tag leave it nothing to say.
	wantMeet(t, tagged("", "a"), tagged("", "ab"), tagged("", "a", "ab"))
	wantMeet(t, tagged("x", "a"), tagged("", "b", "xx"), tagged("x", "a", "b", "xx"))
	wantMeet(t, tagged("", "ba", "b"), tagged("", "c", "a", "c", "b"), tagged("", "a", "b", "ba", "c"))
	wantMeet(t, tagged("", "b", "b"), tagged(""), tagged("", "b"))
	// Rising as bytes do, be they letters or not.
	wantMeet(t, tagged("", "a", "Z"), tagged("", "é", "B", "z"), tagged("", "B", "Z", "a", "z", "é"))
	// Each two sets out of six.
	names := []string{"a", "aa", "ab", "b", "ba", "c"}
	pick := func(set int) (l []string) {
		for i, n := range names {
			if set>>i&1 == 1 {
				l = append(l, n)
			}
		}
		return l
	}
	for one := range 1 << len(names) {
		for other := range 1 << len(names) {
			turned := pick(other)
			slices.Reverse(turned)
			wantMeet(t, tagged("", pick(one)...), tagged("", turned...), tagged("", pick(one|other)...))
		}
	}
}

func TestMeetWhereTheTagBeginsWithOneOfNots(t *testing.T) {
	wantNoMeet(t, tagged("ab"), tagged("", "a"))
	wantNoMeet(t, tagged("ab"), tagged("", "ab"))
	wantMeet(t, tagged("ab"), tagged("", "abc"), tagged("ab", "abc"))
	wantMeet(t, tagged("ab"), tagged("", "b"), tagged("ab", "b"))
	wantNoMeet(t, tagged("ab"), tagged("", "x", "z", "a"))
	wantNoMeet(t, tagged("ab"), tagged("", "a", "x", "z"))
	wantNoMeet(t, tagged("a", "abc"), tagged("abcd"))
	wantNoMeet(t, tagged("a", "abc"), tagged("abc"))
	wantMeet(t, tagged("a", "abc"), tagged("ab"), tagged("ab", "abc"))
	// Both may be of one box: it lets nothing through, so no Meet does.
	wantNoMeet(t, tagged("ab", "a"), tagged(""))
	for _, tag := range tagsOfTwoLetters() {
		for _, begin := range tagsOfTwoLetters()[1:] {
			if beginnings(tag)[begin] == 1 {
				wantNoMeet(t, tagged(tag), tagged("", begin))
			} else {
				wantMeet(t, tagged(tag), tagged("", begin), tagged(tag, begin))
			}
		}
	}
}

// someVersions is versions of which each may be, at and beside the ends of what someBoxes and leaves ask for.
func someVersions() (l []api.Version) {
	for _, tag := range []string{"", "a", "ab", "abc", "b", "ba"} {
		for _, n := range []int{-1, 0, 4, 5, 7, 8, 99} {
			for _, m := range []int{-1, 0, 1} {
				v := with(tag)
				if n >= 0 {
					v.Attrs = append(v.Attrs, attr(1, n))
				}
				if m >= 0 {
					v.Attrs = append(v.Attrs, attr(2, m))
				}
				l = append(l, v)
			}
		}
	}
	return l
}

func someBoxes() (l []api.Box) {
	for _, first := range []api.Side{{}, {How: 2}, {How: 1, Lo: 0, Hi: 4}, {How: 1, Lo: 5, Hi: 7}, {How: 1, Lo: 4, Hi: 99}} {
		for _, second := range []api.Side{{}, {How: 2}, {How: 1}, {How: 1, Hi: 1}} {
			for _, b := range []api.Box{{}, tagged("a"), tagged("ab"), tagged("", "a"), tagged("", "ab", "b"), tagged("a", "ab"), tagged("b", "ba", "c")} {
				b.Keys[1], b.Keys[2] = first, second
				l = append(l, b)
			}
		}
	}
	return l
}

// The Meet lets through what both do; where there is none, nothing is let through by both.
func TestMeetLetsThroughWhatBothDo(t *testing.T) {
	versions := someVersions()
	for _, a := range someBoxes() {
		for _, b := range someBoxes() {
			both, ok := Meet(a, b)
			for _, v := range versions {
				if want := Lets(a, v) && Lets(b, v); (ok && Lets(both, v)) != want {
					t.Fatalf("Meet(%v, %v) = %v, %v: %v", a, b, both, ok, v)
				}
			}
			if other, same := Meet(b, a); same != ok || !alike(both, other) {
				t.Fatalf("Meet(%v, %v): the other way round", a, b)
			}
		}
		wantMeet(t, a, a, a)
		wantMeet(t, a, api.Box{}, a)
	}
}

// Lo and Hi are 0 where How is not 1, though they were not; a range of nothing has no Meet.
func TestMeetOfOddBoxes(t *testing.T) {
	wantMeet(t, side(1, 2, 4, 5), side(1, 2, 6, 7), side(1, 2, 0, 0))
	wantMeet(t, side(1, 2, 4, 5), side(1, 0, 0, 0), side(1, 2, 0, 0))
	wantMeet(t, side(1, 0, 4, 5), side(1, 0, 6, 7), api.Box{})
	wantMeet(t, side(1, 0, 4, 5), side(1, 1, 6, 7), side(1, 1, 6, 7))
	wantNoMeet(t, side(1, 1, 7, 6), api.Box{})
	wantNoMeet(t, side(1, 1, 7, 6), side(1, 1, 0, 99))
	wantMeet(t, side(1, 1, math.MinInt, math.MaxInt), side(1, 1, -1, 100), side(1, 1, -1, 100))
	wantNoMeet(t, tagged("", ""), api.Box{})
	for _, how := range []int{math.MinInt, -1, 3, math.MaxInt} {
		wantNoMeet(t, side(1, how, 0, 0), side(1, 1, 0, 9))
		wantNoMeet(t, side(1, how, 0, 0), side(1, 2, 0, 0))
		wantLets(t, side(1, how, 0, 99), with("", attr(1, 5)), false)
		wantLets(t, side(1, how, 0, 99), with(""), false)
		Meet(side(1, how, 5, 4), side(1, how, 4, 5))
	}
}

func TestOfLeaves(t *testing.T) {
	wantRow(t, all(), "*")
	wantRow(t, not(all()), "")
	wantRow(t, prefix("x"), "^x")
	wantRow(t, prefix("abcdef"), "^abcdef")
	wantRow(t, not(prefix("x")), "!x")
	wantRow(t, not(prefix("abcdef")), "!abcdef")
	for key := range api.MaxKey {
		k := strconv.Itoa(key) + ":"
		for _, x := range []struct {
			lo, hi    int
			own, nots string
		}{
			{5, 5, "5-5", "no; 0-4; 6-99"}, {5, 9, "5-9", "no; 0-4; 10-99"},
			{0, 0, "0-0", "no; 1-99"}, {1, 1, "1-1", "no; 0-0; 2-99"}, {0, 98, "0-98", "no; 99-99"}, {1, 98, "1-98", "no; 0-0; 99-99"},
			{99, 99, "99-99", "no; 0-98"}, {98, 98, "98-98", "no; 0-97; 99-99"}, {1, 99, "1-99", "no; 0-0"}, {0, 99, "0-99", "no"},
		} {
			nots := k + strings.ReplaceAll(x.nots, "; ", "; "+k)
			wantRow(t, within(key, x.lo, x.hi), k+x.own)
			wantRow(t, not(within(key, x.lo, x.hi)), nots)
			if x.lo == x.hi {
				wantRow(t, eq(key, x.lo), k+x.own)
				wantRow(t, not(eq(key, x.lo)), nots)
			}
		}
	}
}

// Each range there may be: what is not in it is in just one of the boxes of its Not.
func TestOfNotOfEachRange(t *testing.T) {
	for lo := range api.MaxNum + 1 {
		for hi := lo; hi <= api.MaxNum; hi++ {
			l, ok := Of(not(within(2, lo, hi)))
			var hits [api.MaxNum + 2]int
			for _, b := range l {
				switch s := b.Keys[2]; s.How {
				case 1:
					for n := s.Lo; n <= s.Hi; n++ {
						hits[n+1]++
					}
				case 2:
					hits[0]++
				}
			}
			for i, n := range hits {
				if want := i == 0 || i-1 < lo || i-1 > hi; !ok || (n == 1) != want || n > 1 {
					t.Fatalf("Not of %d to %d: %q, %v", lo, hi, texts(l), ok)
				}
			}
		}
	}
}

func TestOfTexts(t *testing.T) {
	for _, x := range []struct{ text, want string }{
		// The chapter's example.
		{"! @1=5", "1:no; 1:0-4; 1:6-99"},
		// Or: those of the first, then of the second, as often as they are there.
		{"^x|@0=3", "^x; 0:3-3"}, {"@0=3|^x", "0:3-3; ^x"}, {"^x|^x", "^x; ^x"}, {"*|^x", "*; ^x"}, {"!*|^x", "^x"}, {"^x|!*", "^x"}, {"!*|!*", ""},
		{"!@1=5|^x", "1:no; 1:0-4; 1:6-99; ^x"}, {"^a|(^b|^c)", "^a; ^b; ^c"},
		// And: the first one's turn by turn, each with all of the second.
		{"^x&@0=3", "0:3-3 ^x"}, {"*&^x", "^x"}, {"^x&*", "^x"}, {"!*&^x", ""}, {"^x&!*", ""}, {"@0=3&@0=4", ""}, {"@0:3-7&@0:5-9", "0:5-7"},
		{"(@0=1|@0=2)&(@1=1|@1=2)", "0:1-1 1:1-1; 0:1-1 1:2-2; 0:2-2 1:1-1; 0:2-2 1:2-2"},
		{"(@0=1|@0=2)&(@0=2|@0=1)", "0:1-1; 0:2-2"}, {"(@0:1-5|^a)&(@0:5-9|^ab)", "0:5-5; 0:1-5 ^ab; 0:5-9 ^a; ^ab"},
		{"^x&!^xa", "^x !xa"}, {"!^x&^xa", ""}, {"!^b&!^a&!^b", "!a !b"}, {"!^b&^a", "^a !b"}, {"@1=5&!@1=5", ""}, {"@1:4-6&!@1=5", "1:4-4; 1:6-6"},
		{"!@1=5&!@1=7", "1:no; 1:0-4; 1:6-6; 1:8-99"}, {"!@1=5&!@2=0", "1:no 2:no; 1:no 2:1-99; 1:0-4 2:no; 1:0-4 2:1-99; 1:6-99 2:no; 1:6-99 2:1-99"},
		// Not of Not, of And, of Or.
		{"!!*", "*"}, {"!!!*", ""}, {"!!^x", "^x"}, {"!!@0=3", "0:3-3"}, {"!!!^x", "!x"}, {"!!(^x|@0=3)", "^x; 0:3-3"},
		{"!(@0=0&^x)", "0:no; 0:1-99; !x"}, {"!(^x&@0=0)", "!x; 0:no; 0:1-99"}, {"!(@0:0-99|^x)", "0:no !x"}, {"!(^x|^y)", "!x !y"}, {"!(^y|^x)", "!x !y"}, {"!(^x&^y)", "!x; !y"},
		{"!(*&^x)", "!x"}, {"!(*|^x)", ""}, {"!(!*|^x)", "!x"}, {"!(!^x|!^xy)", "^xy"}, {"!(!^x&!^y)", "^x; ^y"}, {"!(!^x|^xy)", "^x !xy"},
		{"!(@0=0|@1=99)", "0:no 1:no; 0:no 1:0-98; 0:1-99 1:no; 0:1-99 1:0-98"},
		{"!((^a|^b)&!(^c&@0=0))", "!a !b; 0:0-0 ^c"}, {"!(!(^a&^b)|^c)", ""}, {"!!(!(^a&@0=0)|^c)", "!a; 0:no; 0:1-99; ^c"},
	} {
		f, at, ok := pars.Parse(x.text)
		if !ok {
			t.Fatalf("%q fails at %d", x.text, at)
		}
		if l, ok := Of(f); !ok || texts(l) != x.want {
			t.Errorf("Of %q = %q, %v, not %q", x.text, texts(l), ok, x.want)
		}
	}
}

func TestOfAtMostMaxBoxes(t *testing.T) {
	if api.MaxBoxes != 16 {
		t.Fatal("these are made for 16")
	}
	sixteen := anyOf(0, 1, 16)
	wantCount(t, anyOf(0, 1, 15), 15)
	wantCount(t, sixteen, 16)
	wantTooMany(t, or(sixteen, all()))
	wantTooMany(t, or(all(), sixteen))
	wantCount(t, or(sixteen, not(all())), 16)
	wantTooMany(t, anyOf(0, 1, 17))
	wantTooMany(t, anyOf(0, 1, 32))
	wantCount(t, and(anyOf(0, 1, 4), anyOf(1, 1, 4)), 16)
	wantCount(t, and(anyOf(0, 1, 5), anyOf(1, 1, 3)), 15)
	wantTooMany(t, and(anyOf(0, 1, 6), anyOf(1, 1, 3)))
	wantTooMany(t, and(anyOf(0, 1, 3), anyOf(1, 1, 6)))
	wantTooMany(t, and(sixteen, anyOf(1, 1, 2)))
	wantTooMany(t, and(sixteen, anyOf(1, 1, 16)))
	// Pairs without a Meet are none of the row: here each of the second but two meets all of the first, and those two meet so many.
	four, meeting := anyOf(0, 1, 4), anyOf(1, 1, 3)
	wantCount(t, and(four, balanced(api.Or, meeting, within(0, 1, 2), within(0, 3, 4))), 16)
	wantTooMany(t, and(four, balanced(api.Or, meeting, within(0, 1, 3), within(0, 3, 4))))
	wantCount(t, and(sixteen, eq(0, 50)), 0)
	wantCount(t, and(sixteen, sixteen), 16)
	wantCount(t, and(sixteen, not(all())), 0)
}

// A row within that is too long counts, though little or nothing of it were left.
func TestOfNoRowWithinIsOfMore(t *testing.T) {
	six := func(one, other int) api.Filter { return or(not(eq(one, 5)), not(eq(other, 5))) }
	wantCount(t, six(0, 1), 6)
	for _, f := range []api.Filter{and(six(0, 1), six(2, 3)), or(or(six(0, 1), six(2, 3)), six(0, 2)), and(anyOf(0, 1, 3), anyOf(1, 1, 6)), and(anyOf(0, 1, 6), anyOf(1, 1, 3))} {
		wantTooMany(t, f)
		for _, g := range []api.Filter{all(), not(all()), prefix("q"), eq(0, 50), eq(0, 1)} {
			wantTooMany(t, and(f, g))
			wantTooMany(t, and(g, f))
			wantTooMany(t, or(f, g))
			wantTooMany(t, or(g, f))
		}
	}
	wantTooMany(t, not(not(and(six(0, 1), six(2, 3)))))
	wantCount(t, not(not(and(anyOf(0, 1, 4), anyOf(1, 1, 4)))), 16)
}

// The rows of Not are those of Nots: how long a row were without it counts for nothing.
func TestOfNotCountsTheRowsOfNots(t *testing.T) {
	eighteen := and(anyOf(0, 1, 6), anyOf(1, 1, 3))
	wantTooMany(t, eighteen)
	wantRow(t, not(eighteen), "0:no; 0:0-0; 0:7-99; 1:no; 1:0-0; 1:4-99")
	var tags []api.Filter
	for c := 'a'; c < 'a'+16; c++ {
		tags = append(tags, prefix(string(c)))
	}
	wantCount(t, balanced(api.Or, tags...), 16)
	wantRow(t, not(balanced(api.Or, tags...)), "!a !b !c !d !e !f !g !h !i !j !k !l !m !n !o !p")
	wantCount(t, balanced(api.And, tags...), 0)
	wantRow(t, not(balanced(api.And, tags...)), "!a; !b; !c; !d; !e; !f; !g; !h; !i; !j; !k; !l; !m; !n; !o; !p")
	// The other way round: of these there is none, of their Nots three each.
	five := []api.Filter{eq(0, 5), eq(1, 5), eq(2, 5), eq(3, 5), eq(0, 7)}
	wantCount(t, balanced(api.And, five...), 0)
	wantCount(t, not(balanced(api.And, five...)), 15)
	wantCount(t, not(balanced(api.And, append(five, prefix("a"))...)), 16)
	wantTooMany(t, not(balanced(api.And, append(five, prefix("a"), prefix("b"))...)))
	wantTooMany(t, not(balanced(api.And, append(five, eq(1, 0))...)))
	// Not of Or is as And: two boxes of each key, and of one key three.
	wantCount(t, not(balanced(api.Or, eq(0, 0), eq(1, 0), eq(2, 0), eq(3, 0))), 16)
	wantTooMany(t, not(balanced(api.Or, eq(0, 1), eq(1, 0), eq(2, 0), eq(3, 0))))
	// One row of Nots within is too long, though it then meets nothing.
	many := balanced(api.Or, eq(0, 1), eq(1, 1), eq(2, 1))
	wantTooMany(t, not(many))
	wantTooMany(t, not(or(many, all())))
	wantTooMany(t, not(or(all(), many)))
	wantCount(t, or(many, all()), 4)
}

func leaves() []api.Filter {
	return []api.Filter{all(), eq(2, 0), within(1, 5, 7), within(1, 0, 99), prefix("a"), prefix("ab")}
}

// grown is l, and what one operation makes of them.
func grown(l []api.Filter) []api.Filter {
	out := slices.Clone(l)
	for _, a := range l {
		out = append(out, not(a))
		for _, b := range l {
			out = append(out, and(a, b), or(a, b))
		}
	}
	return out
}

// sunk is f, or Not of f, with Nots of leaves alone.
func sunk(f api.Filter, turned bool) api.Filter {
	switch {
	case f.Op == api.Not:
		return sunk(f.Args[0], !turned)
	case f.Op == api.And && turned, f.Op == api.Or && !turned:
		return or(sunk(f.Args[0], turned), sunk(f.Args[1], turned))
	case f.Op == api.And, f.Op == api.Or:
		return and(sunk(f.Args[0], turned), sunk(f.Args[1], turned))
	case turned:
		return not(f)
	}
	return f
}

// reckoned is the row of f, which has Nots of leaves alone, and whether any row is too long.
func reckoned(f api.Filter) (l []api.Box, long bool) {
	if f.Op != api.And && f.Op != api.Or {
		l, ok := Of(f)
		return l, !ok
	}
	first, one := reckoned(f.Args[0])
	second, other := reckoned(f.Args[1])
	for i := range len(first) * len(second) {
		if f.Op == api.Or {
			break
		}
		if both, ok := Meet(first[i/len(second)], second[i%len(second)]); ok {
			l = append(l, both)
		}
	}
	if f.Op == api.Or {
		l = append(slices.Clone(first), second...)
	}
	return l, one || other || len(l) > api.MaxBoxes
}

// wantBoxesOf holds Of against what the promise reckons, and its boxes against what f lets through. It tells whether there is a row.
func wantBoxesOf(t *testing.T, f api.Filter, versions []api.Version) bool {
	t.Helper()
	got, ok := Of(f)
	want, long := reckoned(sunk(f, false))
	if long {
		want = nil
	}
	if ok == long || len(got) > api.MaxBoxes || !slices.EqualFunc(got, want, alike) {
		t.Fatalf("Of(%v) = %q, %v, not %q", f, texts(got), ok, texts(want))
	}
	for _, v := range versions {
		lets := slices.ContainsFunc(got, func(b api.Box) bool { return Lets(b, v) })
		if ok && lets != eval.Lets(f, v) {
			t.Fatalf("Of(%v) = %q: lets %v through: %v", f, texts(got), v, lets)
		}
	}
	return ok
}

// All filters of up to three parts' depth out of some leaves.
func TestAFilterIsItsBoxes(t *testing.T) {
	versions := someVersions()
	l := grown(grown(leaves()))
	if len(l) < 10000 {
		t.Fatalf("%d filters", len(l))
	}
	for _, f := range l {
		wantBoxesOf(t, f, versions)
	}
}

// Filters of each depth up to MaxDeep, of all keys, made by a rule that runs through many, with rows and without.
func TestADeepFilterIsItsBoxes(t *testing.T) {
	state := 1
	next := func(below int) int {
		state = state * 48271 % (1<<31 - 1)
		return state % below
	}
	least := append(leaves(), eq(0, 50), within(3, 9, 99))
	var build func(deep int) api.Filter
	build = func(deep int) api.Filter {
		if deep == 1 {
			return least[next(len(least))]
		}
		a := build(deep - 1)
		if next(3) == 0 {
			return not(a)
		}
		b := build(1 + next(deep-1))
		if next(2) == 0 {
			a, b = b, a
		}
		return api.Filter{Op: api.And + next(2), Args: []api.Filter{a, b}}
	}
	versions := someVersions()
	for _, v := range versions {
		if len(v.Attrs) < 2 {
			for _, n := range []int{8, 9} {
				versions = append(versions, with(v.Tag, slices.Concat(v.Attrs, []api.Attr{attr(3, n)})...))
			}
			versions = append(versions, with(v.Tag, slices.Concat([]api.Attr{attr(0, 50)}, v.Attrs)...))
		}
	}
	var rows, none int
	for round := range 6000 {
		f := build(1 + round%api.MaxDeep)
		if !pars.May(f) {
			t.Fatalf("%v may not be", f)
		}
		if wantBoxesOf(t, f, versions) {
			rows++
		} else {
			none++
		}
	}
	if rows < 5000 || none < 100 {
		t.Errorf("%d with rows, %d without", rows, none)
	}
}

// What a box asks of is within what a key may be, and Lo and Hi are 0 where How is not 1; Nots rise.
func TestOfTellsBoxesInOneForm(t *testing.T) {
	for _, f := range grown(grown(leaves()[1:])) {
		l, _ := Of(f)
		for _, b := range l {
			for _, s := range b.Keys {
				fits := s.How == 1 && 0 <= s.Lo && s.Lo <= s.Hi && s.Hi <= api.MaxNum
				if !fits && s != (api.Side{How: 2}) && s != (api.Side{}) {
					t.Fatalf("Of(%v): %v", f, s)
				}
			}
			for i := 1; i < len(b.Nots); i++ {
				if b.Nots[i-1] >= b.Nots[i] {
					t.Fatalf("Of(%v): %v", f, b.Nots)
				}
			}
		}
	}
}

// As deep as may be, on whichever side.
func TestOfAtTheGreatestDepth(t *testing.T) {
	deep, left, right := prefix("a"), prefix("a"), prefix("a")
	for range api.MaxDeep - 1 {
		deep, left, right = not(deep), and(left, eq(1, 5)), or(all(), right)
	}
	wantRow(t, deep.Args[0], "^a")
	wantRow(t, deep, "!a")
	wantRow(t, left, "1:5-5 ^a")
	wantRow(t, right, "*; *; *; *; *; ^a")
	// What is deeper may not be; it is told as no row, not as a row of something else.
	for _, f := range []api.Filter{not(deep), and(all(), left), or(right, all())} {
		if l, ok := Of(f); ok || l != nil {
			t.Errorf("too deep: %q, %v", texts(l), ok)
		}
	}
}

func TestNilAndEmptyAreOne(t *testing.T) {
	empty := api.Box{Nots: []string{}}
	wantMeet(t, empty, api.Box{}, api.Box{})
	wantMeet(t, empty, tagged("a", "b"), tagged("a", "b"))
	wantLets(t, empty, with("a"), true)
	bare := with("")
	bare.Attrs = []api.Attr{}
	wantLets(t, side(1, 2, 0, 0), bare, true)
	wantLets(t, side(1, 1, 0, 99), bare, false)
	for _, f := range leaves() {
		g := f
		g.Args = []api.Filter{}
		a, _ := Of(f)
		b, ok := Of(g)
		if !ok || texts(a) != texts(b) {
			t.Errorf("%v: nil and an empty list of Args", f)
		}
	}
}

// What may not be has no row that is promised, but an answer.
func TestOfWrongInputs(t *testing.T) {
	for op := -2; op <= 10; op++ {
		for _, args := range [][]api.Filter{nil, {}, {all()}, {{}}, {all(), all()}, {all(), {}}, {{}, all(), not(all())}, make([]api.Filter, 1<<12)} {
			for _, n := range []int{math.MinInt, -1, 0, 3, 4, 99, 100, math.MaxInt} {
				for _, key := range []int{math.MinInt, -1, 0, 3, 4, math.MaxInt} {
					f := api.Filter{Op: op, Key: key, Lo: n, Hi: -n, Tag: "\xff", Args: args}
					for _, g := range []api.Filter{f, not(f), and(all(), f), or(f, all()), not(and(f, f)), not(or(f, f))} {
						if l, ok := Of(g); len(l) > api.MaxBoxes || !ok && l != nil {
							t.Fatalf("Of(%v) = %q, %v", g, texts(l), ok)
						}
					}
				}
			}
		}
	}
	// No Op, not as many Args as it has, no key: no boxes, and none of what holds it.
	for _, f := range []api.Filter{{}, {Op: 8}, {Op: -1}, {Op: math.MaxInt}, {Op: api.Not}, {Op: api.And}, {Op: api.Or, Args: []api.Filter{all()}},
		{Op: api.Not, Args: []api.Filter{all(), all()}}, {Op: api.And, Args: []api.Filter{all(), all(), all()}}, {Op: api.All, Args: []api.Filter{all()}},
		eq(-1, 5), eq(api.MaxKey, 5), within(math.MinInt, 0, 1), within(math.MaxInt, 0, 1)} {
		for _, g := range []api.Filter{f, not(f), or(all(), f), and(f, not(all()))} {
			if l, ok := Of(g); ok || l != nil {
				t.Errorf("Of(%v) = %q, %v", g, texts(l), ok)
			}
		}
	}
}

// Filters that hold themselves, or one list in very many places, or very deep; great boxes.
func TestEachCallEnds(t *testing.T) {
	for op := range 10 {
		for size := range 5 {
			ring := make([]api.Filter, size)
			for i := range ring {
				ring[i] = api.Filter{Op: op, Args: ring}
			}
			Of(api.Filter{Op: op, Args: ring})
			shared, deep := all(), all()
			for range 1000 {
				shared = api.Filter{Op: op, Args: slices.Repeat([]api.Filter{shared}, size)}
			}
			for range 1 << 17 {
				deep = api.Filter{Op: op, Args: []api.Filter{deep}}
			}
			Of(shared)
			Of(deep)
		}
	}
	long := strings.Repeat("a", 1<<20)
	great := api.Box{Tag: long, Nots: slices.Repeat([]string{"b", long + "b", "é"}, 1<<8)}
	if both, ok := Meet(great, great); !ok || both.Tag != long || !slices.Equal(both.Nots, []string{long + "b", "b", "é"}) {
		t.Error("a great box")
	}
	wantMeet(t, tagged(long), tagged("a"), tagged(long))
	Lets(great, with(long, make([]api.Attr, 1<<16)...))
}

func TestNothingHandedInIsChanged(t *testing.T) {
	room := []string{"d", "b", "d", "a", "c", "x", "w", "v"}
	keptRoom := slices.Clone(room)
	for size := range 6 {
		for _, other := range [][]string{nil, room[5:5:6], room[5:7], {"z", "e"}} {
			a, b := tagged("", room[:size]...), tagged("", other...)
			Meet(a, b)
			Meet(b, a)
			Lets(a, with("d"))
			Lets(b, with("w"))
			if !slices.Equal(room, keptRoom) {
				t.Fatalf("changed: %v", room)
			}
		}
	}
	build := func() []api.Filter {
		return []api.Filter{not(or(prefix("b"), eq(1, 5))), and(not(prefix("c")), not(prefix("a"))), within(2, 0, 4), not(all())}
	}
	args := build()
	for op := range 9 {
		for size := range 4 {
			Of(api.Filter{Op: op, Key: 1, Lo: 5, Hi: 5, Tag: "a", Args: args[:size]})
			if !reflect.DeepEqual(args, build()) {
				t.Fatalf("changed: Op %d, %d Args", op, size)
			}
		}
	}
}

// inside tells whether s lies in the memory of another text.
func inside(s, of string) bool {
	from, p := uintptr(unsafe.Pointer(unsafe.StringData(of))), uintptr(unsafe.Pointer(unsafe.StringData(s)))
	return s != "" && from <= p && p < from+uintptr(len(of))
}

func TestWhatIsToldIsNewMemory(t *testing.T) {
	store := strings.Clone("abcdxyz")
	tag, x, y := store[:4], store[4:5], store[5:]
	nots := []string{x, y}
	for _, other := range []api.Box{{}, tagged("q"), tagged(tag[:2]), tagged("", "k")} {
		for _, a := range []api.Box{tagged("", nots...), tagged(tag, nots...)} {
			for _, pair := range [][2]api.Box{{a, other}, {other, a}} {
				both, _ := Meet(pair[0], pair[1])
				for _, s := range append([]string{both.Tag}, both.Nots...) {
					if inside(s, store) {
						t.Errorf("Meet(%v, %v): %q is not new", pair[0], pair[1], s)
					}
				}
				for i := range both.Nots[:cap(both.Nots)] {
					both.Nots[:cap(both.Nots)][i] = "turned"
				}
				if !slices.Equal(nots, []string{x, y}) {
					t.Fatalf("Meet(%v, %v) shares Nots", pair[0], pair[1])
				}
			}
		}
	}
	for _, f := range []api.Filter{prefix(tag), not(prefix(tag)), or(prefix(tag), not(prefix(x))), and(not(prefix(x)), prefix(tag)), not(or(prefix(tag), prefix(x)))} {
		l, ok := Of(f)
		for _, b := range l {
			for _, s := range append([]string{b.Tag}, b.Nots...) {
				if !ok || inside(s, store) {
					t.Errorf("Of(%v): %q is not new", f, s)
				}
			}
		}
	}
}

// No two lists of one answer share memory, not even spare room.
func TestRowsShareNothing(t *testing.T) {
	three := not(and(prefix("a"), and(prefix("b"), prefix("c"))))
	for _, f := range []api.Filter{or(three, three), and(three, three), and(three, not(prefix("d"))), not(or(and(prefix("a"), prefix("b")), and(prefix("a"), prefix("c")))), or(and(three, not(prefix("d"))), three)} {
		l, ok := Of(f)
		if !ok || len(l) < 3 {
			t.Fatalf("Of(%v) = %q, %v", f, texts(l), ok)
		}
		for i := range l {
			before := texts(slices.Concat(l[:i], l[i+1:]))
			spare := append(l[i].Nots, "spare", "room")
			for j := range spare[:cap(spare)] {
				spare[:cap(spare)][j] = "turned"
			}
			for j := range l[i].Nots {
				l[i].Nots[j] = "turned"
			}
			if texts(slices.Concat(l[:i], l[i+1:])) != before {
				t.Fatalf("Of(%v): box %d shares its Nots", f, i)
			}
		}
		again, _ := Of(f)
		if strings.Contains(texts(again), "turned") {
			t.Errorf("Of(%v): kept", f)
		}
	}
}

// The same is told each time.
func TestSame(t *testing.T) {
	for _, f := range grown(leaves()) {
		a, one := Of(f)
		b, other := Of(f)
		if one != other || !slices.EqualFunc(a, b, alike) {
			t.Errorf("Of(%v) differs", f)
		}
	}
}
