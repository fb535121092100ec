package cover

import (
	"math"
	"reflect"
	"slices"
	"strings"
	"testing"

	"cardamom/api"
	"cardamom/eval"
	"cardamom/norm"
	"cardamom/pars"
)

func all() api.Filter { return api.Filter{Op: api.All} }

func eq(key, n int) api.Filter { return api.Filter{Op: api.Eq, Key: key, Lo: n, Hi: n} }

func between(key, lo, hi int) api.Filter {
	return api.Filter{Op: api.Range, Key: key, Lo: lo, Hi: hi}
}

func prefix(tag string) api.Filter { return api.Filter{Op: api.Prefix, Tag: tag} }

func not(f api.Filter) api.Filter { return api.Filter{Op: api.Not, Args: []api.Filter{f}} }

func and(a, b api.Filter) api.Filter { return api.Filter{Op: api.And, Args: []api.Filter{a, b}} }

func or(a, b api.Filter) api.Filter { return api.Filter{Op: api.Or, Args: []api.Filter{a, b}} }

// balanced is a filter of all of l, in that order, no deeper than it must be.
func balanced(op int, l ...api.Filter) api.Filter {
	if len(l) == 1 {
		return l[0]
	}
	half := (len(l) + 1) / 2
	return api.Filter{Op: op, Args: []api.Filter{balanced(op, l[:half]...), balanced(op, l[half:]...)}}
}

// anyOf is Or of n filters of one box each: of key, from lo on.
func anyOf(key, lo, n int) api.Filter {
	var l []api.Filter
	for i := range n {
		l = append(l, eq(key, lo+i))
	}
	return balanced(api.Or, l...)
}

func attr(key, val int) api.Attr { return api.Attr{Key: key, Val: val} }

// with is a version of that tag and those attributes.
func with(tag string, l ...api.Attr) api.Version {
	return api.Version{Item: 2, S: api.Stamp{L: 5, R: 2, N: 3}, Attrs: l, Tag: tag, Body: "body"}
}

// side is a box of one key alone.
func side(key, how, lo, hi int) (b api.Box) {
	b.Keys[key] = api.Side{How: how, Lo: lo, Hi: hi}
	return b
}

func tagged(tag string, nots ...string) api.Box { return api.Box{Tag: tag, Nots: nots} }

func wantWithin(t *testing.T, a, b api.Box, want bool) {
	t.Helper()
	if Within(a, b) != want {
		t.Errorf("Within(%v, %v) = %v", a, b, !want)
	}
}

// wantCovers holds Covers of what may be, and has rows, both, against want.
func wantCovers(t *testing.T, f, g api.Filter, want bool) {
	t.Helper()
	if !pars.May(f) || !pars.May(g) {
		t.Fatalf("%v or %v may not be", f, g)
	}
	if yes, ok := Covers(f, g); yes != want || !ok {
		t.Errorf("Covers(%v, %v) = %v, %v", f, g, yes, ok)
	}
}

func wantNoRow(t *testing.T, f, g api.Filter) {
	t.Helper()
	if yes, ok := Covers(f, g); yes || ok {
		t.Errorf("Covers(%v, %v) = %v, %v", f, g, yes, ok)
	}
}

// tagsOfTwoLetters is all tags of a and b that are no longer than that, the empty one first.
func tagsOfTwoLetters(longest int) []string {
	l := []string{""}
	for i := 0; len(l[i]) < longest; i++ {
		l = append(l, l[i]+"a", l[i]+"b")
	}
	return l
}

// begins tells whether a tag can be cut down to begin.
func begins(tag, begin string) bool {
	for ; len(tag) > len(begin); tag = tag[:len(tag)-1] {
	}
	return tag == begin
}

// notsFit is the promise's words of b's Nots, with nothing of the package.
func notsFit(a, b api.Box) bool {
	for _, x := range b.Nots {
		fits := !begins(x, a.Tag) && !begins(a.Tag, x)
		for _, y := range a.Nots {
			fits = fits || begins(x, y)
		}
		if !fits {
			return false
		}
	}
	return true
}

// reckonedWithin is the promise's words, with nothing of the package.
func reckonedWithin(a, b api.Box) bool {
	fits := begins(a.Tag, b.Tag) && notsFit(a, b)
	for key := range api.MaxKey {
		x, y := a.Keys[key], b.Keys[key]
		inside := x.How == 1 && y.How == 1 && !(x.Lo < y.Lo) && !(x.Hi > y.Hi)
		fits = fits && (y.How == 0 || inside || x.How == 2 && y.How == 2)
	}
	return fits
}

func TestWithinOfEachHowAgainstEach(t *testing.T) {
	for key := range api.MaxKey {
		whatever, there, absent := api.Box{}, side(key, 1, 3, 7), side(key, 2, 0, 0)
		for _, x := range []struct {
			a, b api.Box
			want bool
		}{
			{whatever, whatever, true}, {whatever, there, false}, {whatever, absent, false},
			{there, whatever, true}, {there, there, true}, {there, absent, false},
			{absent, whatever, true}, {absent, there, false}, {absent, absent, true},
		} {
			wantWithin(t, x.a, x.b, x.want)
		}
		// The widest range asks that it be there; one that holds 0 does not let through what is not there.
		wantWithin(t, whatever, side(key, 1, 0, 99), false)
		wantWithin(t, absent, side(key, 1, 0, 99), false)
		wantWithin(t, absent, side(key, 1, 0, 0), false)
		wantWithin(t, side(key, 1, 0, 0), absent, false)
		wantWithin(t, side(key, 1, 0, 0), whatever, true)
		wantWithin(t, side(key, 1, 0, 99), whatever, true)
		// One key is not another.
		other := (key + 1) % api.MaxKey
		wantWithin(t, there, side(other, 1, 3, 7), false)
		wantWithin(t, absent, side(other, 2, 0, 0), false)
	}
}

func TestWithinAtEachEndOfARange(t *testing.T) {
	for key := range api.MaxKey {
		b := side(key, 1, 40, 60)
		for _, x := range []struct {
			lo, hi int
			want   bool
		}{
			{40, 60, true}, {41, 60, true}, {40, 59, true}, {41, 59, true}, {40, 40, true}, {60, 60, true}, {50, 50, true},
			{39, 60, false}, {40, 61, false}, {39, 61, false}, {39, 59, false}, {41, 61, false}, {39, 40, false}, {60, 61, false},
			{39, 39, false}, {61, 61, false}, {0, 39, false}, {61, 99, false}, {0, 99, false}, {0, 60, false}, {40, 99, false},
		} {
			wantWithin(t, side(key, 1, x.lo, x.hi), b, x.want)
		}
		for _, x := range []struct {
			lo, hi, outerLo, outerHi int
			want                     bool
		}{
			{0, 0, 0, 0, true}, {0, 1, 0, 0, false}, {1, 1, 0, 0, false}, {0, 0, 1, 1, false}, {0, 0, 1, 99, false},
			{99, 99, 99, 99, true}, {98, 99, 99, 99, false}, {98, 98, 99, 99, false}, {99, 99, 98, 98, false}, {99, 99, 0, 98, false},
			{0, 99, 0, 99, true}, {0, 99, 1, 99, false}, {0, 99, 0, 98, false}, {1, 99, 0, 99, true}, {0, 98, 0, 99, true},
		} {
			wantWithin(t, side(key, 1, x.lo, x.hi), side(key, 1, x.outerLo, x.outerHi), x.want)
		}
	}
}

// Each two ranges out of many ends: each number counted on, instead of the ends held against each other.
func TestWithinOfEachTwoRanges(t *testing.T) {
	ends := []int{0, 1, 2, 10, 11, 12, 48, 49, 50, 51, 52, 88, 96, 97, 98, 99}
	type counted struct {
		lo, hi int
		in     [api.MaxNum + 1]bool
	}
	var l []counted
	for i, lo := range ends {
		for _, hi := range ends[i:] {
			x := counted{lo: lo, hi: hi}
			for n := lo; n <= hi; n++ {
				x.in[n] = true
			}
			l = append(l, x)
		}
	}
	for _, a := range l {
		for _, b := range l {
			want := true
			for n, in := range a.in {
				want = want && (!in || b.in[n])
			}
			wantWithin(t, side(2, 1, a.lo, a.hi), side(2, 1, b.lo, b.hi), want)
		}
	}
}

// hows is a box of the key's How in turn, by a number below 81.
func hows(n int) (b api.Box) {
	for key := range b.Keys {
		b.Keys[key].How = n % 3
		if n%3 == 1 {
			b.Keys[key].Lo, b.Keys[key].Hi = 20*key, 20*key+5
		}
		n /= 3
	}
	return b
}

// Each How of each of the keys against each: all of them must fit.
func TestWithinAsksOfEachKey(t *testing.T) {
	for m := range 81 {
		for n := range 81 {
			want := true
			for i, j := m, n; j > 0; i, j = i/3, j/3 {
				want = want && (j%3 == 0 || i%3 == j%3)
			}
			wantWithin(t, hows(m), hows(n), want)
		}
	}
	full := hows(1 + 3 + 9 + 27)
	for key := range api.MaxKey {
		for _, x := range []struct {
			lo, hi int
			want   bool
		}{{0, 0, true}, {1, 0, true}, {0, -1, true}, {-1, 0, false}, {0, 1, false}} {
			a, b := full, full
			b.Keys[key].Lo++
			b.Keys[key].Hi++
			a.Keys[key] = b.Keys[key]
			a.Keys[key].Lo += x.lo
			a.Keys[key].Hi += x.hi
			wantWithin(t, a, b, x.want)
		}
	}
}

func TestWithinOfTags(t *testing.T) {
	for _, x := range []struct {
		a, b string
		want bool
	}{
		{"", "", true}, {"a", "", true}, {"", "a", false}, {"a", "a", true}, {"a", "b", false}, {"b", "a", false},
		{"ab", "a", true}, {"a", "ab", false}, {"ab", "b", false}, {"ba", "a", false}, {"ab", "ac", false}, {"abc", "ac", false}, {"abc", "bc", false},
		{"abcdef", "abcdef", true}, {"abcdef", "abcde", true}, {"abcde", "abcdef", false}, {"abcdef", "abcdeg", false}, {"abcdef", "bbcdef", false}, {"zzzzzz", "z", true},
	} {
		wantWithin(t, tagged(x.a), tagged(x.b), x.want)
	}
	// Each two tags of two letters.
	tags := tagsOfTwoLetters(api.MaxTag)
	if len(tags) != 127 {
		t.Fatalf("%d tags", len(tags))
	}
	for _, a := range tags {
		for _, b := range tags {
			wantWithin(t, tagged(a), tagged(b), begins(a, b))
		}
	}
}

func TestWithinOfNots(t *testing.T) {
	for _, x := range []struct {
		a, b api.Box
		want bool
	}{
		// b asks for none.
		{tagged("", "a"), tagged(""), true}, {tagged("a", "ab", "ac"), tagged("a"), true}, {tagged("a", "ab"), tagged(""), true},
		// It begins with one of a's Nots: the same one, a shorter one; not with a longer one, nor another.
		{tagged("", "a"), tagged("", "a"), true}, {tagged("", "a"), tagged("", "ab"), true}, {tagged("", "a"), tagged("", "abcdef"), true},
		{tagged("", "ab"), tagged("", "a"), false}, {tagged("", "abcdef"), tagged("", "abcde"), false}, {tagged("", "a"), tagged("", "b"), false}, {tagged("", "a"), tagged("", "ba"), false},
		{tagged(""), tagged("", "a"), false}, {tagged("", "ab"), tagged("", "ac"), false},
		// With the first, the last, one between; each of b's.
		{tagged("", "a", "c", "e"), tagged("", "ax"), true}, {tagged("", "a", "c", "e"), tagged("", "c"), true}, {tagged("", "a", "c", "e"), tagged("", "ee"), true}, {tagged("", "a", "c", "e"), tagged("", "d"), false},
		{tagged("", "a", "c", "e"), tagged("", "a", "c", "e"), true}, {tagged("", "a", "c", "e"), tagged("", "ab", "ac", "eb"), true},
		{tagged("", "a", "c"), tagged("", "a", "c", "e"), false}, {tagged("", "c", "e"), tagged("", "a", "c", "e"), false}, {tagged("", "a", "e"), tagged("", "a", "c", "e"), false},
		{tagged("", "c", "a"), tagged("", "ab", "c", "a"), true}, {tagged("", "a", "a"), tagged("", "a"), true},
		// Neither it nor a's Tag begins with the other.
		{tagged("b"), tagged("", "a"), true}, {tagged("ab"), tagged("", "ac"), true}, {tagged("ab"), tagged("", "b"), true}, {tagged("ab"), tagged("", "bab"), true}, {tagged("b"), tagged("", "ab"), true}, {tagged("abcdef"), tagged("", "abcdeg"), true},
		// It begins with a's Tag; a's Tag begins with it; they are one.
		{tagged("a"), tagged("", "ab"), false}, {tagged("abcde"), tagged("", "abcdef"), false},
		{tagged("ab"), tagged("", "a"), false}, {tagged("abcdef"), tagged("", "abcde"), false}, {tagged("a"), tagged("", "a"), false},
		// One of b's in the one way, one in the other; one in neither, wherever it stands.
		{tagged("b", "bc"), tagged("", "a", "bcd"), true}, {tagged("b", "bc"), tagged("b", "a", "bcd"), true}, {tagged("b", "bc"), tagged("", "bcd", "ca"), true},
		{tagged("b", "bc"), tagged("", "a", "bcd", "bd"), false}, {tagged("b", "bc"), tagged("", "b", "bcd", "c"), false}, {tagged("b", "bc"), tagged("", "a", "ba", "bc"), false},
		// In both ways at once.
		{tagged("b", "a"), tagged("", "ab"), true}, {tagged("b", "a"), tagged("", "a"), true},
		// A Not of a is no Tag, and b's Tag no matter.
		{tagged("b", "a"), tagged("a"), false}, {tagged("", "a"), tagged("b"), false}, {tagged("a"), tagged("b", "b"), false}, {tagged("ab"), tagged("a", "ac"), true}, {tagged("ab"), tagged("a", "abc"), false}, {tagged("a"), tagged("ab", "ac"), false},
	} {
		wantWithin(t, x.a, x.b, x.want)
	}
}

// listsOfTwo is all lists of at most two of l, one twice too.
func listsOfTwo(l []string) [][]string {
	out := [][]string{nil}
	for _, a := range l {
		out = append(out, []string{a})
		for _, b := range l {
			out = append(out, []string{a, b})
		}
	}
	return out
}

// All boxes of short tags of two letters, against the promise's words, and against what they let through: where a lets anything through, it is within b just if b lets through all of it; where it lets nothing through, what is written counts.
func TestWithinOfEachTagAndNots(t *testing.T) {
	tags := tagsOfTwoLetters(2)
	var boxes []api.Box
	for _, tag := range tags {
		for _, nots := range listsOfTwo(tags) {
			boxes = append(boxes, tagged(tag, nots...))
		}
	}
	sets := make([]uint64, len(boxes))
	for i, b := range boxes {
		for j, tag := range tagsOfTwoLetters(3) {
			if norm.Lets(b, with(tag)) {
				sets[i] |= 1 << j
			}
		}
	}
	var yes, no, unseen int
	for i, a := range boxes {
		for j, b := range boxes {
			got := Within(a, b)
			if got != (begins(a.Tag, b.Tag) && notsFit(a, b)) {
				t.Fatalf("Within(%v, %v) = %v", a, b, got)
			}
			subset := sets[i]&^sets[j] == 0
			switch {
			case got && !subset, sets[i] != 0 && got != subset:
				t.Fatalf("Within(%v, %v) = %v, by what they let through %v", a, b, got, subset)
			case got:
				yes++
			case subset:
				unseen++
			default:
				no++
			}
		}
	}
	if yes < 1000 || no < 1000 || unseen < 1000 {
		t.Errorf("%d, %d, %d", yes, no, unseen)
	}
}

// someVersions is versions of which each may be, at and beside the ends of what someBoxes and leaves ask for.
func someVersions() (l []api.Version) {
	for _, tag := range []string{"", "a", "ab", "abc", "b", "ba"} {
		for _, n := range []int{-1, 0, 4, 5, 7, 8, 99} {
			for _, m := range []int{-1, 0, 1} {
				v := with(tag)
				if n >= 0 {
					v.Attrs = append(v.Attrs, attr(1, n))
				}
				if m >= 0 {
					v.Attrs = append(v.Attrs, attr(2, m))
				}
				l = append(l, v)
			}
		}
	}
	return l
}

func someBoxes() (l []api.Box) {
	for _, first := range []api.Side{{}, {How: 2}, {How: 1, Lo: 0, Hi: 4}, {How: 1, Lo: 5, Hi: 7}, {How: 1, Lo: 4, Hi: 99}} {
		for _, second := range []api.Side{{}, {How: 2}, {How: 1}, {How: 1, Hi: 1}} {
			for _, b := range []api.Box{{}, tagged("a"), tagged("ab"), tagged("", "a"), tagged("", "ab", "b"), tagged("a", "ab"), tagged("b", "ba", "c")} {
				b.Keys[1], b.Keys[2] = first, second
				l = append(l, b)
			}
		}
	}
	return l
}

// Of boxes of which each lets something through: one is within another just if the other lets through all that it does.
func TestWithinIsWhatIsLetThrough(t *testing.T) {
	versions := someVersions()
	for _, a := range someBoxes() {
		for _, b := range someBoxes() {
			want, any := true, false
			for _, v := range versions {
				if norm.Lets(a, v) {
					any, want = true, want && norm.Lets(b, v)
				}
			}
			if got := Within(a, b); !any || got != want || got != reckonedWithin(a, b) {
				t.Fatalf("Within(%v, %v) = %v", a, b, got)
			}
		}
	}
}

// A key that fits does not make up for a tag that does not, nor for one of Nots.
func TestWithinAsksForAll(t *testing.T) {
	b := tagged("a", "ab", "ad")
	b.Keys = [api.MaxKey]api.Side{{How: 1, Lo: 3, Hi: 4}, {How: 2}, {}, {How: 1, Lo: 9, Hi: 9}}
	turns := []struct {
		turn func(a *api.Box)
		want bool
	}{
		{func(a *api.Box) {}, true},
		{func(a *api.Box) { a.Keys[0].Hi = 3 }, true}, {func(a *api.Box) { a.Keys[2] = api.Side{How: 2} }, true}, {func(a *api.Box) { a.Tag = "ac" }, true},
		{func(a *api.Box) { a.Tag, a.Nots = "ac", nil }, true}, {func(a *api.Box) { a.Nots = []string{"ab", "ac", "ad"} }, true},
		{func(a *api.Box) { a.Keys[0].Lo = 2 }, false}, {func(a *api.Box) { a.Keys[0].Hi = 5 }, false}, {func(a *api.Box) { a.Keys[0] = api.Side{How: 2} }, false},
		{func(a *api.Box) { a.Keys[1] = api.Side{} }, false}, {func(a *api.Box) { a.Keys[1] = api.Side{How: 1} }, false}, {func(a *api.Box) { a.Keys[3] = api.Side{} }, false},
		{func(a *api.Box) { a.Keys[3].Lo = 8 }, false}, {func(a *api.Box) { a.Tag = "" }, false}, {func(a *api.Box) { a.Tag = "b" }, false},
		{func(a *api.Box) { a.Nots = []string{"ab"} }, false}, {func(a *api.Box) { a.Nots = []string{"ad"} }, false}, {func(a *api.Box) { a.Nots = nil }, false},
	}
	for _, x := range turns {
		a := b
		x.turn(&a)
		wantWithin(t, a, b, x.want)
	}
}

// What lets nothing through is within another by what is written there alone.
func TestWithinByWhatIsWrittenAlone(t *testing.T) {
	for _, x := range []struct {
		a, b api.Box
		want bool
	}{
		{side(1, 1, 7, 6), side(1, 1, 0, 5), false}, {side(1, 1, 7, 6), side(1, 1, 7, 99), true}, {side(1, 1, 7, 3), side(1, 1, 4, 6), true}, {side(1, 1, 7, 3), side(1, 1, 8, 9), false},
		{side(1, 1, 7, 6), side(0, 1, 0, 99), false}, {side(1, 1, 7, 6), side(1, 2, 0, 0), false}, {side(1, 1, 7, 6), api.Box{}, true}, {side(1, 1, 7, 6), tagged("a"), false},
		{side(1, 1, 7, 6), side(1, 1, 7, 6), true}, {side(1, 1, 0, 9), side(1, 1, 9, 0), false},
		{tagged("ab", "a"), tagged("c"), false}, {tagged("ab", "a"), tagged("", "ab"), true}, {tagged("ab", "ab"), tagged("", "a"), false}, {tagged("ab", ""), tagged("c"), false},
		{tagged("ab", "a"), side(1, 1, 0, 99), false}, {tagged("", ""), tagged("", "a"), true}, {tagged("", ""), tagged("", ""), true}, {tagged(""), tagged("", ""), false}, {tagged("a"), tagged("", ""), false}, {tagged("a", "b"), tagged("", ""), false},
	} {
		wantWithin(t, x.a, x.b, x.want)
	}
	// A version has no more than MaxAttr attributes; here one of all keys were there. It is not written in the boxes.
	a, b := hows(1+3+9), hows(2*27)
	wantWithin(t, a, b, false)
}

// Lo and Hi say something of How 1 alone.
func TestWithinOfEndsThatSayNothing(t *testing.T) {
	wantWithin(t, side(1, 2, 4, 5), side(1, 2, 6, 7), true)
	wantWithin(t, side(1, 2, 0, 0), side(1, 2, 6, 7), true)
	wantWithin(t, side(1, 2, 0, 99), side(1, 2, 6, 7), true)
	wantWithin(t, side(1, 0, 0, 99), side(1, 0, 6, 7), true)
	wantWithin(t, side(1, 1, 0, 99), side(1, 0, 6, 7), true)
	wantWithin(t, side(1, 2, 0, 99), side(1, 0, 6, 7), true)
	wantWithin(t, side(1, 0, 6, 7), side(1, 1, 6, 7), false)
	wantWithin(t, side(1, 2, 6, 7), side(1, 1, 6, 7), false)
	wantWithin(t, side(1, 1, 6, 7), side(1, 2, 6, 7), false)
	wantWithin(t, side(1, 0, 6, 7), side(1, 2, 6, 7), false)
}

// Boxes stand in an order: each is within itself, what is within what is within a third is within the third, and the Meet of two is within both.
func TestWithinIsAnOrder(t *testing.T) {
	boxes := append(someBoxes(), tagged("ab", "a"), tagged("", "b", "a"), side(1, 1, 6, 6), side(0, 2, 0, 0), hows(80))
	for _, a := range boxes {
		wantWithin(t, a, a, true)
		wantWithin(t, a, api.Box{}, true)
		for _, b := range boxes {
			if both, ok := norm.Meet(a, b); ok {
				wantWithin(t, both, a, true)
				wantWithin(t, both, b, true)
			}
			if !Within(a, b) {
				continue
			}
			for _, c := range boxes {
				if Within(b, c) && !Within(a, c) {
					t.Fatalf("%v within %v within %v", a, b, c)
				}
			}
		}
	}
}

func TestWithinOfOddBoxes(t *testing.T) {
	for _, how := range []int{math.MinInt, -1, 3, 4, 1<<8 + 1, 1<<32 + 1, math.MaxInt} {
		odd := side(1, how, 0, 99)
		wantWithin(t, odd, api.Box{}, true)
		wantWithin(t, odd, odd, false)
		for _, b := range []api.Box{{}, side(1, 1, 0, 99), side(1, 2, 0, 99)} {
			wantWithin(t, b, odd, false)
			wantWithin(t, odd, b, b.Keys[1].How == 0)
		}
	}
	wantWithin(t, side(1, 1, math.MinInt, math.MaxInt), side(1, 1, 0, 99), false)
	wantWithin(t, side(1, 1, 0, 99), side(1, 1, math.MinInt, math.MaxInt), true)
	wantWithin(t, side(1, 1, math.MinInt, math.MaxInt), side(1, 1, math.MinInt, math.MaxInt), true)
	wantWithin(t, side(1, 1, math.MaxInt, math.MinInt), side(1, 1, 0, 99), true)
	wantWithin(t, tagged("é"), tagged("\xc3"), true)
	wantWithin(t, tagged("\xff\x00b"), tagged("\xff\x00"), true)
	wantWithin(t, tagged("\xff"), tagged("", "\xfe"), true)
	wantWithin(t, tagged("a"), tagged("A"), false)
}

// Told without the boxes, which are too great to print.
func TestWithinOfGreatBoxes(t *testing.T) {
	long := strings.Repeat("a", 1<<20)
	great := tagged(long+"b", slices.Repeat([]string{"b", long + "c", "é"}, 1<<8)...)
	for i, x := range []struct {
		a, b api.Box
		want bool
	}{
		{tagged(long), tagged("a"), true}, {tagged("a"), tagged(long), false}, {great, great, true},
		{great, tagged("a", "c", "bb", long+"bb"), false}, {great, tagged("a", "c", "bb", long+"cb"), true},
	} {
		if Within(x.a, x.b) != x.want {
			t.Errorf("%d: %v", i, !x.want)
		}
	}
}

func TestCoversOfTexts(t *testing.T) {
	for _, x := range []struct {
		f, g string
		want bool
	}{
		// The chapter's example.
		{"@1:0-9", "@1=5", true},
		{"@1=5", "@1:0-9", false}, {"@1:0-9", "@1=0", true}, {"@1:0-9", "@1=9", true}, {"@1:0-9", "@1=10", false}, {"@1:1-9", "@1=0", false}, {"@1:0-9", "@2=5", false},
		{"*", "*", true}, {"*", "!*", true}, {"!*", "*", false}, {"!*", "!*", true}, {"*", "@0=0", true}, {"@0:0-99", "*", false}, {"*", "!^a", true}, {"!^a", "*", false},
		{"@1=5", "@1:5-5", true}, {"@1:5-5", "@1=5", true}, {"@1=5", "@1=5", true}, {"@1=5", "@1=6", false},
		{"^a", "^ab", true}, {"^ab", "^a", false}, {"^a", "^b", false}, {"^a", "^a", true},
		{"!^ab", "!^a", true}, {"!^a", "!^ab", false}, {"!^a", "^b", true}, {"!^a", "^a", false}, {"!^ab", "^a", false}, {"!^a", "^ab", false}, {"!^a", "^b&!^bc", true},
		{"!@1=5", "@1=4", true}, {"!@1=5", "@1=6", true}, {"!@1=5", "@1=5", false}, {"!@1=5", "@1:4-6", false}, {"!@1=5", "!@1:4-6", true}, {"!@1:4-6", "!@1=5", false},
		{"!@1=5", "!@1:0-99", true}, {"!@1:0-99", "!@1=5", false}, {"!@1:0-99", "@1=5", false}, {"!@1=0", "@1:1-99", true}, {"!@1=99", "@1:0-98", true}, {"!@1=0", "@1:0-9", false}, {"!@1=5", "@2=5", false},
		{"^a", "^a&@1=5", true}, {"^a", "@1=5&^a", true}, {"^a&@1=5", "^a", false}, {"^a&@1:0-9", "@1=5&^ab", true}, {"^a&@1:0-9", "@1=5&^b", false}, {"^ab", "^a&^ab", true}, {"^a&^abc", "^ab", false},
		// Some box of f for each of g's, wherever it stands.
		{"^a|^b|^c", "^a", true}, {"^a|^b|^c", "^b", true}, {"^a|^b|^c", "^c", true}, {"^a|^b|^c", "^d", false}, {"^a|^b|^c", "^c|^a|^b", true}, {"^a|^b|^c", "^cc|^ca", true},
		{"^a|^b|^c", "^d|^a|^b", false}, {"^a|^b|^c", "^a|^d|^b", false}, {"^a|^b|^c", "^a|^b|^d", false}, {"^a", "^a|^b", false}, {"^a", "^aa|^ab", true}, {"^aa|^ab", "^a", false},
		// Nothing at all is within all, and of nothing only that.
		{"!*", "@0=1&@0=2", true}, {"@0=1&@0=2", "!*", true}, {"@0=1&@0=2", "^a&^b", true}, {"^a&!^a", "@3=3", false}, {"@3=3", "^ab&!^a", true}, {"!*", "^a", false},
		// What is within several of f's together, and in none of them, is not told to be covered.
		{"@0:0-4|@0:5-9", "@0:3-6", false}, {"@0:0-4|@0:3-9", "@0:3-4", true}, {"@0=1|!@0=1", "*", false}, {"^a|!^a", "*", false}, {"@0:0-99|!@0:0-99", "*", false}, {"@1=0|@1=1", "@1:0-1", false}, {"@1:0-1", "@1=0|@1=1", true},
		// Nots sunk to the leaves.
		{"!(^a&@1=5)", "!^a", true}, {"!(^a&@1=5)", "!@1=5", true}, {"!(^a|@1=5)", "!^a", false}, {"!^a", "!(^a|@1=5)", true}, {"!!^a", "^a", true}, {"^a", "!!^a", true}, {"!(^a|^b)", "^c", true}, {"!(^a|^b)", "!(^b|^a)", true}, {"!(^a|^b)", "!^a", false},
	} {
		f, _, one := pars.Parse(x.f)
		g, _, other := pars.Parse(x.g)
		if !one || !other {
			t.Fatalf("%q or %q is no text", x.f, x.g)
		}
		if yes, ok := Covers(f, g); yes != x.want || !ok {
			t.Errorf("Covers of %q, %q = %v, %v", x.f, x.g, yes, ok)
		}
	}
}

// One box each: then it is just whether f lets through all that g does.
func TestCoversOfEachTwoRangesAndTags(t *testing.T) {
	ends := []int{0, 1, 2, 49, 50, 51, 97, 98, 99}
	var l []api.Filter
	for i, lo := range ends {
		l = append(l, eq(3, lo))
		for _, hi := range ends[i:] {
			l = append(l, between(3, lo, hi))
		}
	}
	for _, f := range l {
		for _, g := range l {
			want := true
			for n := range api.MaxNum + 1 {
				v := with("", attr(3, n))
				want = want && (!eval.Lets(g, v) || eval.Lets(f, v))
			}
			wantCovers(t, f, g, want)
		}
	}
	tags := tagsOfTwoLetters(4)[1:]
	for _, f := range tags {
		for _, g := range tags {
			wantCovers(t, prefix(f), prefix(g), begins(g, f))
			wantCovers(t, not(prefix(f)), not(prefix(g)), begins(f, g))
			wantCovers(t, not(prefix(f)), prefix(g), !begins(f, g) && !begins(g, f))
			wantCovers(t, prefix(f), not(prefix(g)), false)
		}
	}
}

// Each box of g is asked for, and any of f's may hold it: up to as many as there may be.
func TestCoversLooksAtAllBoxes(t *testing.T) {
	for n := 1; n <= api.MaxBoxes; n++ {
		f := anyOf(0, 10, n)
		wantCovers(t, f, f, true)
		for i := range n {
			wantCovers(t, f, eq(0, 10+i), true)
			wantCovers(t, f, and(eq(0, 10+i), prefix("a")), true)
			// All of f's but one.
			var l []api.Filter
			for j := range n {
				l = append(l, eq(0, 10+j))
			}
			l[i] = eq(0, 9)
			wantCovers(t, f, balanced(api.Or, l...), false)
			wantCovers(t, balanced(api.Or, l...), f, false)
		}
		wantCovers(t, f, eq(0, 9), false)
		wantCovers(t, f, eq(0, 10+n), false)
	}
}

func TestCoversAtMostMaxBoxes(t *testing.T) {
	if api.MaxBoxes != 16 {
		t.Fatal("these are made for 16")
	}
	sixteen, seventeen := anyOf(0, 1, 16), anyOf(0, 1, 17)
	nothing := not(all())
	wantCovers(t, sixteen, eq(0, 16), true)
	wantCovers(t, all(), sixteen, true)
	wantCovers(t, sixteen, sixteen, true)
	wantCovers(t, sixteen, nothing, true)
	wantCovers(t, nothing, sixteen, false)
	for _, many := range []api.Filter{seventeen, or(sixteen, all()), and(anyOf(0, 1, 6), anyOf(1, 1, 3)), and(and(anyOf(0, 1, 6), anyOf(1, 1, 3)), nothing), not(or(eq(0, 1), or(eq(1, 1), eq(2, 1))))} {
		if !pars.May(many) {
			t.Fatalf("%v may not be", many)
		}
		for _, f := range []api.Filter{all(), nothing, eq(0, 1), eq(3, 50), sixteen, seventeen, many} {
			wantNoRow(t, many, f)
			wantNoRow(t, f, many)
		}
	}
	// The boxes of Not of it are few.
	wantCovers(t, not(and(anyOf(0, 1, 6), anyOf(1, 1, 3))), not(anyOf(0, 1, 6)), true)
}

func leaves() []api.Filter {
	return []api.Filter{all(), eq(2, 0), between(1, 5, 7), between(1, 0, 99), prefix("a"), prefix("ab")}
}

// grown is l, and what one operation makes of them.
func grown(l []api.Filter) []api.Filter {
	out := slices.Clone(l)
	for _, a := range l {
		out = append(out, not(a))
		for _, b := range l {
			out = append(out, and(a, b), or(a, b))
		}
	}
	return out
}

// lettings is which of some versions a filter lets through, by eval.
func lettings(f api.Filter, versions []api.Version) []bool {
	var l []bool
	for _, v := range versions {
		l = append(l, eval.Lets(f, v))
	}
	return l
}

// reckonedCovers is the promise's words, of the rows.
func reckonedCovers(f, g []api.Box) bool {
	for _, b := range g {
		var count int
		for _, outer := range f {
			if reckonedWithin(b, outer) {
				count++
			}
		}
		if count == 0 {
			return false
		}
	}
	return true
}

// wantSound holds Covers of each two of l against the promise's words, and what is told to be covered against what both let through. It tells how many were told to be covered, not to be, and to have no rows.
func wantSound(t *testing.T, l []api.Filter, versions []api.Version) (covered, open, none int) {
	t.Helper()
	rows, has, lets := make([][]api.Box, len(l)), make([]bool, len(l)), make([][]bool, len(l))
	for i, f := range l {
		rows[i], has[i] = norm.Of(f)
		lets[i] = lettings(f, versions)
	}
	for i, f := range l {
		for j, g := range l {
			yes, ok := Covers(f, g)
			if ok != (has[i] && has[j]) || yes != (ok && reckonedCovers(rows[i], rows[j])) {
				t.Fatalf("Covers(%v, %v) = %v, %v", f, g, yes, ok)
			}
			switch {
			case !ok:
				none++
			case !yes:
				open++
			default:
				covered++
			}
			for k := range versions {
				if yes && lets[j][k] && !lets[i][k] {
					t.Fatalf("Covers(%v, %v): not %v", f, g, versions[k])
				}
			}
		}
	}
	return covered, open, none
}

func TestWhatIsCoveredIs(t *testing.T) {
	versions := someVersions()
	l := grown(leaves())
	covered, open, none := wantSound(t, l, versions)
	if covered < 1000 || open < 1000 || none != 0 {
		t.Errorf("%d covered, %d not, %d without rows", covered, open, none)
	}
	// Two operations, of which every 31st filter.
	var deeper []api.Filter
	for i, f := range grown(l) {
		if i%31 == 0 {
			deeper = append(deeper, f)
		}
	}
	wantSound(t, deeper, versions)
}

// deepFilters is filters of each depth up to MaxDeep, of all keys, made by a rule that runs through many.
func deepFilters(n int) (l []api.Filter) {
	state := 1
	next := func(below int) int {
		state = state * 48271 % (1<<31 - 1)
		return state % below
	}
	least := append(leaves(), eq(0, 50), between(3, 9, 99))
	var build func(deep int) api.Filter
	build = func(deep int) api.Filter {
		if deep == 1 {
			return least[next(len(least))]
		}
		a := build(deep - 1)
		if next(3) == 0 {
			return not(a)
		}
		b := build(1 + next(deep-1))
		if next(2) == 0 {
			a, b = b, a
		}
		return api.Filter{Op: api.And + next(2), Args: []api.Filter{a, b}}
	}
	for round := range n {
		l = append(l, build(1+round%api.MaxDeep))
	}
	return l
}

func TestWhatIsCoveredIsOfDeepFilters(t *testing.T) {
	versions := someVersions()
	for _, v := range versions {
		if len(v.Attrs) < 2 {
			for _, n := range []int{8, 9} {
				versions = append(versions, with(v.Tag, slices.Concat(v.Attrs, []api.Attr{attr(3, n)})...))
			}
			versions = append(versions, with(v.Tag, slices.Concat([]api.Attr{attr(0, 50)}, v.Attrs)...))
		}
	}
	l := deepFilters(400)
	for _, f := range l {
		if !pars.May(f) {
			t.Fatalf("%v may not be", f)
		}
	}
	covered, open, none := wantSound(t, l, versions)
	if covered < 10000 || open < 10000 || none < 1000 {
		t.Errorf("%d covered, %d not, %d without rows", covered, open, none)
	}
}

// Each that has a row covers itself, what And makes of it, and nothing; Or of it covers it.
func TestCoversOfItsOwn(t *testing.T) {
	for _, f := range grown(leaves()) {
		wantCovers(t, f, f, true)
		wantCovers(t, all(), f, true)
		wantCovers(t, f, not(all()), true)
		for _, g := range leaves() {
			wantCovers(t, f, and(f, g), true)
			wantCovers(t, f, and(g, f), true)
			wantCovers(t, or(f, g), f, true)
			wantCovers(t, or(g, f), f, true)
			wantCovers(t, or(g, f), and(f, g), true)
		}
	}
}

func TestNilAndEmptyAreOne(t *testing.T) {
	none, empty := api.Box{}, api.Box{Nots: []string{}}
	for _, a := range append(someBoxes(), none, empty) {
		if Within(a, none) != Within(a, empty) || Within(none, a) != Within(empty, a) {
			t.Errorf("%v: nil and an empty list of Nots", a)
		}
	}
	for _, f := range leaves() {
		g := f
		g.Args = []api.Filter{}
		wantCovers(t, f, g, true)
		wantCovers(t, g, f, true)
	}
}

// What may not be has no row, or an answer that is not promised.
func TestCoversOfWrongInputs(t *testing.T) {
	for _, f := range []api.Filter{{}, {Op: 8}, {Op: -1}, {Op: math.MaxInt}, {Op: api.Not}, {Op: api.And}, {Op: api.Or, Args: []api.Filter{all()}},
		{Op: api.Not, Args: []api.Filter{all(), all()}}, {Op: api.And, Args: []api.Filter{all(), all(), all()}}, {Op: api.All, Args: []api.Filter{all()}},
		eq(-1, 5), eq(api.MaxKey, 5), between(math.MinInt, 0, 1), between(math.MaxInt, 0, 1)} {
		for _, g := range []api.Filter{f, not(f), or(all(), f), and(f, not(all()))} {
			for _, h := range []api.Filter{all(), not(all()), f, g, eq(1, 5)} {
				wantNoRow(t, g, h)
				wantNoRow(t, h, g)
			}
		}
	}
	for op := -2; op <= 10; op++ {
		for _, args := range [][]api.Filter{nil, {}, {all()}, {{}}, {all(), all()}, {all(), {}}, {{}, all(), not(all())}, make([]api.Filter, 1<<12)} {
			for _, n := range []int{math.MinInt, -1, 0, 4, 99, 100, math.MaxInt} {
				f := api.Filter{Op: op, Key: n, Lo: n, Hi: -n, Tag: "\xff", Args: args}
				for _, g := range []api.Filter{f, not(f), and(all(), f), or(f, all())} {
					for _, h := range []api.Filter{all(), not(all()), f, g} {
						one, ok := Covers(g, h)
						other, both := Covers(h, g)
						if one && !ok || other && !both || ok != both {
							t.Fatalf("%v, %v: %v, %v; %v, %v", g, h, one, ok, other, both)
						}
					}
				}
			}
		}
	}
}

// Filters that hold themselves, or one list in very many places, or very deep.
func TestCoversEnds(t *testing.T) {
	for op := range 10 {
		for size := range 5 {
			ring := make([]api.Filter, size)
			for i := range ring {
				ring[i] = api.Filter{Op: op, Args: ring}
			}
			shared, deep := all(), all()
			for range 1000 {
				shared = api.Filter{Op: op, Args: slices.Repeat([]api.Filter{shared}, size)}
			}
			for range 1 << 17 {
				deep = api.Filter{Op: op, Args: []api.Filter{deep}}
			}
			for _, f := range []api.Filter{{Op: op, Args: ring}, shared, deep} {
				Covers(f, f)
				Covers(f, all())
				Covers(all(), f)
			}
		}
	}
}

func TestNothingHandedInIsChanged(t *testing.T) {
	room := []string{"d", "b", "d", "a", "c", "x", "w", "v"}
	kept := slices.Clone(room)
	for size := range 6 {
		for _, other := range [][]string{nil, room[5:5:6], room[5:7], {"z", "e"}} {
			a, b := tagged("", room[:size]...), tagged("", other...)
			Within(a, b)
			Within(b, a)
			Within(a, a)
			if !slices.Equal(room, kept) {
				t.Fatalf("changed: %v", room)
			}
		}
	}
	build := func() []api.Filter {
		return []api.Filter{not(or(prefix("b"), eq(1, 5))), and(not(prefix("c")), not(prefix("a"))), between(2, 0, 4), not(all())}
	}
	args := build()
	for op := range 9 {
		for size := range 4 {
			f := api.Filter{Op: op, Key: 1, Lo: 5, Hi: 5, Tag: "a", Args: args[:size]}
			for _, g := range append(build(), f) {
				Covers(f, g)
				Covers(g, f)
			}
			if !reflect.DeepEqual(args, build()) {
				t.Fatalf("changed: Op %d, %d Args", op, size)
			}
		}
	}
}

// The same is told each time, whatever was asked between.
func TestSame(t *testing.T) {
	type answer struct{ yes, ok bool }
	tell := func() (l []answer) {
		filters := deepFilters(60)
		for _, f := range filters {
			for _, g := range filters {
				yes, ok := Covers(f, g)
				l = append(l, answer{yes, ok})
			}
		}
		return l
	}
	first := tell()
	if !slices.Equal(first, tell()) {
		t.Error("another answer")
	}
}
