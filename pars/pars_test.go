package pars

import (
	"errors"
	"math"
	"reflect"
	"slices"
	"strconv"
	"strings"
	"testing"
	"unsafe"

	"cardamom/api"
	"cardamom/word"
)

func all() api.Filter { return api.Filter{Op: api.All} }

func eq(key, n int) api.Filter { return api.Filter{Op: api.Eq, Key: key, Lo: n, Hi: n} }

func between(key, lo, hi int) api.Filter {
	return api.Filter{Op: api.Range, Key: key, Lo: lo, Hi: hi}
}

func prefix(tag string) api.Filter { return api.Filter{Op: api.Prefix, Tag: tag} }

func not(f api.Filter) api.Filter { return api.Filter{Op: api.Not, Args: []api.Filter{f}} }

func and(a, b api.Filter) api.Filter { return api.Filter{Op: api.And, Args: []api.Filter{a, b}} }

func or(a, b api.Filter) api.Filter { return api.Filter{Op: api.Or, Args: []api.Filter{a, b}} }

// nots is a filter of so many Nots around f.
func nots(n int, f api.Filter) api.Filter {
	for range n {
		f = not(f)
	}
	return f
}

// full is a tree of pairs, so deep, which share nothing.
func full(op, deep int) api.Filter {
	if deep == 1 {
		return all()
	}
	return api.Filter{Op: op, Args: []api.Filter{full(op, deep-1), full(op, deep-1)}}
}

// turn is f with one thing changed.
func turn(f api.Filter, change func(f *api.Filter)) api.Filter {
	change(&f)
	return f
}

func wantMay(t *testing.T, f api.Filter, want bool) {
	t.Helper()
	if May(f) != want {
		t.Errorf("May(%v) = %v", f, !want)
	}
	if s, ok := Write(f); !want && (ok || s != "") {
		t.Errorf("Write(%v) = %q, %v", f, s, ok)
	}
}

func wantFilter(t *testing.T, s string, want api.Filter) {
	t.Helper()
	if f, at, ok := Parse(s); !ok || at != 0 || !equal(f, want) || !May(f) {
		t.Errorf("Parse(%q) = %v, %d, %v, not %v", s, f, at, ok, want)
	}
}

func wantNo(t *testing.T, s string, want int) {
	t.Helper()
	if f, at, ok := Parse(s); ok || at != want || !reflect.DeepEqual(f, api.Filter{}) {
		t.Errorf("Parse(%.90q) = %v, %d, %v, not at %d", s, f, at, ok, want)
	}
}

func wantText(t *testing.T, f api.Filter, want string) {
	t.Helper()
	if s, ok := Write(f); !ok || s != want {
		t.Errorf("Write(%v) = %q, %v, not %q", f, s, ok, want)
	}
}

// equal is what Same must tell, by another way: an empty list is made none ahead.
func equal(a, b api.Filter) bool { return reflect.DeepEqual(plain(a), plain(b)) }

func plain(f api.Filter) api.Filter {
	var l []api.Filter
	for _, arg := range f.Args {
		l = append(l, plain(arg))
	}
	f.Args = l
	return f
}

func TestMayOfEachOp(t *testing.T) {
	for op := -3; op <= 12; op++ {
		for args := range 5 {
			f := api.Filter{Op: op}
			for range args {
				f.Args = append(f.Args, all())
			}
			if op == api.Prefix {
				f.Tag = "a"
			}
			var want bool
			switch op {
			case 1, 2, 3, 4:
				want = args == 0
			case 5, 6:
				want = args == 2
			case 7:
				want = args == 1
			}
			wantMay(t, f, want)
		}
	}
	for _, op := range []int{math.MinInt, math.MaxInt, 1 << 32, 1<<32 + 1, 1<<8 + 1} {
		wantMay(t, api.Filter{Op: op}, false)
	}
	wantMay(t, api.Filter{}, false)
}

func TestMayOfNumbersAtEachLimit(t *testing.T) {
	for _, n := range []int{math.MinInt, -100, -1, 0, 1, 2, 3, 4, 5, 98, 99, 100, 101, 1 << 32, math.MaxInt} {
		wantMay(t, eq(n, 7), 0 <= n && n <= 3)
		wantMay(t, between(n, 7, 8), 0 <= n && n <= 3)
		wantMay(t, eq(3, n), 0 <= n && n <= 99)
		wantMay(t, between(3, n, n), 0 <= n && n <= 99)
		wantMay(t, between(3, n, 99), 0 <= n && n <= 99)
		wantMay(t, between(3, 0, n), 0 <= n && n <= 99)
	}
	for lo := -2; lo <= 102; lo++ {
		for hi := -2; hi <= 102; hi++ {
			wantMay(t, between(1, lo, hi), 0 <= lo && lo <= hi && hi <= 99)
			wantMay(t, api.Filter{Op: api.Eq, Key: 1, Lo: lo, Hi: hi}, 0 <= lo && lo == hi && hi <= 99)
		}
	}
}

func TestMayOfTagsAtEachLimit(t *testing.T) {
	for size := range 12 {
		wantMay(t, prefix("azbymnqrstuv"[:size]), 1 <= size && size <= 6)
	}
	for b := range 256 {
		c := string([]byte{byte(b)})
		letter := 'a' <= b && b <= 'z'
		for _, tag := range []string{c, c + "a", "a" + c, "abc" + c + "z", "abcde" + c} {
			wantMay(t, prefix(tag), letter)
		}
	}
	wantMay(t, prefix("é"), false)
	wantMay(t, prefix("*"), false)
	wantMay(t, prefix(strings.Repeat("a", 1<<20)), false)
}

// What an Op does not name is zero.
func TestMayOfWhatIsNotNamed(t *testing.T) {
	ways := map[string]func(f *api.Filter){
		"Key":  func(f *api.Filter) { f.Key = 1 },
		"Lo":   func(f *api.Filter) { f.Lo = 1 },
		"Hi":   func(f *api.Filter) { f.Hi = 1 },
		"Tag":  func(f *api.Filter) { f.Tag = "a" },
		"Args": func(f *api.Filter) { f.Args = append(slices.Clone(f.Args), all()) },
		"-Key": func(f *api.Filter) { f.Key = -1 },
		"-Lo":  func(f *api.Filter) { f.Lo = -1 },
		"-Hi":  func(f *api.Filter) { f.Hi = -1 },
	}
	for _, x := range []struct {
		f     api.Filter
		named string
	}{
		{all(), ""},
		{prefix("b"), "Tag"},
		{and(all(), all()), ""},
		{or(all(), all()), ""},
		{not(all()), ""},
		{between(0, 0, 5), "Key Lo Hi"},
	} {
		wantMay(t, x.f, true)
		for part, change := range ways {
			wantMay(t, turn(x.f, change), part != "" && slices.Contains(strings.Fields(x.named), part))
		}
	}
	wantMay(t, turn(eq(0, 1), ways["Tag"]), false)
	wantMay(t, turn(eq(0, 1), ways["Args"]), false)
	wantMay(t, turn(eq(0, 1), ways["Key"]), true)
	wantMay(t, turn(between(0, 0, 1), ways["Tag"]), false)
	// nil and an empty list are one.
	for _, f := range []api.Filter{all(), eq(1, 1), between(1, 1, 2), prefix("a")} {
		f.Args = []api.Filter{}
		wantMay(t, f, true)
	}
}

func TestMayAtEachDepth(t *testing.T) {
	for _, leaf := range []api.Filter{all(), eq(1, 5), between(1, 5, 6), prefix("a")} {
		for n := range 20 {
			wantMay(t, nots(n, leaf), n <= 5)
		}
	}
	for deep := 1; deep <= 9; deep++ {
		wantMay(t, full(api.And, deep), deep <= 6)
		wantMay(t, full(api.Or, deep), deep <= 6)
		// Deep on one side alone.
		wantMay(t, or(nots(deep-1, all()), all()), deep <= 5)
		wantMay(t, or(all(), nots(deep-1, all())), deep <= 5)
		wantMay(t, and(all(), nots(deep-1, all())), deep <= 5)
	}
	wantMay(t, nots(1<<16, all()), false)
	wantMay(t, nots(1<<20, all()), false)
}

// Each may be: a fault in any part is a fault of the whole.
func TestMayOfParts(t *testing.T) {
	for _, bad := range []api.Filter{{}, {Op: 8}, eq(4, 0), eq(0, 100), between(0, 5, 4), prefix(""), {Op: api.Not}, {Op: api.All, Lo: 1}, turn(eq(0, 5), func(f *api.Filter) { f.Hi = 6 })} {
		for _, f := range []api.Filter{bad, not(bad), and(bad, all()), and(all(), bad), or(bad, all()), or(all(), bad), nots(5, bad), or(and(all(), not(bad)), all()), or(all(), and(all(), not(bad))), and(bad, bad)} {
			wantMay(t, f, false)
		}
	}
}

// own tells a filter that has itself among its parts, of as many Args as its Op has.
func own(op, args int) api.Filter {
	f := api.Filter{Op: op, Args: make([]api.Filter, args)}
	for i := range f.Args {
		f.Args[i] = f
	}
	return f
}

func TestFiltersThatHoldThemselves(t *testing.T) {
	for _, f := range []api.Filter{own(api.Not, 1), own(api.And, 2), own(api.Or, 2), own(api.All, 3), own(0, 2), own(api.Or, 1000)} {
		wantMay(t, f, false)
		wantMay(t, not(f), false)
		wantMay(t, or(all(), f), false)
		// There is an answer, whichever.
		Same(f, f)
		Same(f, not(f))
		if Same(f, all()) || Same(all(), f) || Same(f, api.Filter{}) {
			t.Error("alike to what has no parts")
		}
	}
}

// shared tells a tree of pairs of which each has one part in both places.
func shared(deep int) api.Filter {
	f := all()
	for range deep - 1 {
		f = or(f, f)
	}
	return f
}

func sameWithin(a, b api.Filter, nested int, parts *int) bool { return same(&a, &b, nested, parts) }

func TestManyParts(t *testing.T) {
	wantMay(t, shared(6), true)
	wantMay(t, shared(7), false)
	wantMay(t, shared(200), false)
	if !Same(shared(16), full(api.Or, 16)) || Same(shared(16), shared(17)) {
		t.Error("sixteen deep")
	}
	// As many parts as are counted, and one more; as deep as is looked, and one deeper.
	for deep := 1; deep < 10; deep++ {
		parts := 1<<deep - 1
		for _, left := range []int{parts - 1, parts, parts + 1} {
			for _, nested := range []int{deep - 1, deep, deep + 1} {
				n := left
				if sameWithin(shared(deep), full(api.Or, deep), nested, &n) != (left >= parts && nested >= deep) {
					t.Errorf("%d deep, %d parts: looked at %d deep, %d parts", deep, parts, nested, left)
				}
			}
		}
	}
	n := 1 << 16
	if sameWithin(shared(300), shared(300), 1<<16, &n) || n != 0 {
		t.Errorf("%d parts left", n)
	}
}

// samples is filters of which no two are alike, some of which may not be.
func samples() []api.Filter {
	bare := api.Filter{}
	l := []api.Filter{bare, {Op: -1}, {Op: 8}, {Op: 1}, {Op: 2}, {Op: 3}, {Op: 4}, {Op: 5}, {Op: 6}, {Op: 7}, {Key: 1}, {Key: -1}, {Lo: 1}, {Hi: 1}, {Lo: 1, Hi: 1}, {Tag: "a"}, {Tag: "b"}, {Tag: "ab"}, {Tag: "A"}, {Tag: "a\x00"},
		eq(1, 5), eq(2, 5), eq(1, 6), between(1, 5, 5), between(1, 5, 6), between(1, 4, 5), prefix("a"), prefix("ab"), prefix("b"),
		{Op: 3, Key: 1, Lo: 2, Hi: 3, Tag: "x", Args: []api.Filter{all()}},
		{Args: []api.Filter{bare}}, {Args: []api.Filter{bare, bare}}, {Args: []api.Filter{bare, bare, bare}}, {Args: []api.Filter{all()}}, {Args: []api.Filter{{Args: []api.Filter{bare}}}},
		{Op: api.Not, Args: []api.Filter{all(), all()}}, {Op: api.And, Args: []api.Filter{all()}},
	}
	for _, a := range []api.Filter{all(), eq(1, 7), prefix("c")} {
		l = append(l, not(a), not(not(a)), nots(9, a))
		for _, b := range []api.Filter{all(), eq(1, 7), prefix("c")} {
			l = append(l, and(a, b), or(a, b), and(not(a), b), and(a, not(b)), or(and(a, b), b), or(b, and(a, b)), and(or(a, b), not(b)))
		}
	}
	return l
}

// twin tells f in other memory, with an empty list where f has none.
func twin(f api.Filter) api.Filter {
	l := []api.Filter{}
	for _, arg := range f.Args {
		l = append(l, twin(arg))
	}
	f.Tag = strings.Clone(f.Tag)
	f.Args = l
	return f
}

func TestSame(t *testing.T) {
	for i, a := range samples() {
		for j, b := range samples() {
			if Same(a, b) != (i == j) || Same(a, twin(b)) != (i == j) || Same(twin(a), b) != (i == j) {
				t.Errorf("Same(%v, %v)", a, b)
			}
		}
	}
	if !Same(api.Filter{}, api.Filter{Args: []api.Filter{}}) || !Same(api.Filter{Args: []api.Filter{}}, api.Filter{}) {
		t.Error("nil and an empty list are one")
	}
}

// Each part of a filter, however deep it lies, counts.
func TestSameSeesEachPart(t *testing.T) {
	ways := []func(f *api.Filter){
		func(f *api.Filter) { f.Op++ },
		func(f *api.Filter) { f.Key++ },
		func(f *api.Filter) { f.Lo-- },
		func(f *api.Filter) { f.Hi++ },
		func(f *api.Filter) { f.Tag += "a" },
		func(f *api.Filter) { f.Args = append(slices.Clone(f.Args), api.Filter{}) },
	}
	for _, change := range ways {
		for _, around := range []func(f api.Filter) api.Filter{
			func(f api.Filter) api.Filter { return f },
			not,
			func(f api.Filter) api.Filter { return and(f, all()) },
			func(f api.Filter) api.Filter { return or(all(), not(f)) },
			func(f api.Filter) api.Filter { return nots(1000, f) },
		} {
			inner := api.Filter{Op: 3, Key: 1, Lo: 2, Hi: 3, Tag: "x", Args: []api.Filter{all(), not(all())}}
			a, b := around(inner), around(turn(inner, change))
			if Same(a, b) || Same(b, a) || !Same(a, twin(a)) || !Same(b, twin(b)) {
				t.Errorf("Same(%v, %v)", a, b)
			}
		}
	}
}

func TestSameOfDeepAndWide(t *testing.T) {
	const most = 1 << 16
	if !Same(nots(most-1, all()), nots(most-1, all())) {
		t.Error("as deep as can be: not alike")
	}
	if Same(nots(most-1, all()), nots(most-1, eq(0, 0))) || Same(nots(most-1, all()), nots(most-2, all())) {
		t.Error("as deep as can be: alike")
	}
	// Beyond it no answer is promised, but that there is one.
	Same(nots(1<<22, all()), nots(1<<22, all()))
	wide := func(last api.Filter) api.Filter {
		return api.Filter{Op: api.And, Args: append(make([]api.Filter, 1<<20), last)}
	}
	if !Same(wide(all()), wide(all())) || Same(wide(all()), wide(eq(0, 0))) || Same(wide(all()), turn(wide(all()), func(f *api.Filter) { f.Args = f.Args[1:] })) {
		t.Error("many Args")
	}
	long := strings.Repeat("a", 1<<20)
	if !Same(prefix(long), prefix(strings.Clone(long))) || Same(prefix(long), prefix(long[1:]+"b")) {
		t.Error("long Tags")
	}
}

// texts has filters whose text is written just so.
func texts() map[string]api.Filter {
	a, b, c, d := prefix("a"), prefix("b"), prefix("c"), prefix("d")
	return map[string]api.Filter{
		"*": all(), "@1=5": eq(1, 5), "@0=0": eq(0, 0), "@3=99": eq(3, 99), "@2=10": eq(2, 10),
		"@1:0-99": between(1, 0, 99), "@0:7-7": between(0, 7, 7), "@3:9-10": between(3, 9, 10),
		"^a": a, "^abcdef": prefix("abcdef"), "^ab&!@1=5": and(prefix("ab"), not(eq(1, 5))),
		"!*": not(all()), "!!^z": nots(2, prefix("z")), "!!!!!@1=5": nots(5, eq(1, 5)),
		"^a&^b": and(a, b), "^a|^b": or(a, b),
		"^a&^b&^c": and(and(a, b), c), "^a&(^b&^c)": and(a, and(b, c)),
		"^a|^b|^c": or(or(a, b), c), "^a|(^b|^c)": or(a, or(b, c)),
		"^a&^b|^c": or(and(a, b), c), "^a|^b&^c": or(a, and(b, c)),
		"(^a|^b)&^c": and(or(a, b), c), "^a&(^b|^c)": and(a, or(b, c)),
		"^a&^b|^c&^d": or(and(a, b), and(c, d)), "(^a|^b)&(^c|^d)": and(or(a, b), or(c, d)),
		"(^a|^b)&^c|^d": or(and(or(a, b), c), d), "^a|^b&^c|^d": or(or(a, and(b, c)), d),
		"^a&^b&(^c&^d)": and(and(a, b), and(c, d)), "^a&(^b&^c)&^d": and(and(a, and(b, c)), d),
		"^a&^b|(^c|^d)": or(and(a, b), or(c, d)), "^a&(^b|^c&^d)": and(a, or(b, and(c, d))),
		"!^a&^b": and(not(a), b), "!(^a&^b)": not(and(a, b)), "^a&!^b": and(a, not(b)),
		"!^a|^b": or(not(a), b), "!(^a|^b)": not(or(a, b)), "!^a|!^b": or(not(a), not(b)),
		"!!(^a&^b)": nots(2, and(a, b)), "!(!^a&!!^b)": not(and(not(a), nots(2, b))),
		"!(!(^a|^b)&^c)|^d":   or(not(and(not(or(a, b)), c)), d),
		"*&*&*&*&*&*":         and(and(and(and(and(all(), all()), all()), all()), all()), all()),
		"*|(*|(*|(*|(*|*))))": or(all(), or(all(), or(all(), or(all(), or(all(), all()))))),
	}
}

func TestTexts(t *testing.T) {
	for s, f := range texts() {
		wantFilter(t, s, f)
		wantText(t, f, s)
		wantText(t, twin(f), s)
	}
}

func TestTextsThatAreWrittenOtherwise(t *testing.T) {
	for s, want := range map[string]string{
		"(*)": "*", "((((@1=5))))": "@1=5", " ^a & ( ^b ) ": "^a&^b", "(^a&^b)&^c": "^a&^b&^c", "(^a|^b)|^c": "^a|^b|^c",
		"(^a&^b)|^c": "^a&^b|^c", "^a|(^b&^c)": "^a|^b&^c", "(!^a)&^b": "!^a&^b", "!(!(^a))": "!!^a", "!(^a)&^b": "!^a&^b",
		"@01=07": "@1=7", "@00:00-09": "@0:0-9", "@ 2 : 3 - 04": "@2:3-4", "^ abc": "^abc", "! ! *": "!!*", "(((*)&(*)))": "*&*",
		strings.Repeat("(", 29) + "*" + strings.Repeat(")", 29): "*",
		strings.Repeat(" ", 79) + "*":                           "*",
		"*" + strings.Repeat(" ", 79):                           "*",
	} {
		f, at, ok := Parse(s)
		if !ok || at != 0 {
			t.Errorf("Parse(%q): no at %d", s, at)
		}
		wantText(t, f, want)
		wantFilter(t, want, f)
	}
}

func TestNumbersOfTexts(t *testing.T) {
	for n := range 100 {
		text := strconv.Itoa(n)
		wantFilter(t, "@1="+text, eq(1, n))
		wantText(t, eq(1, n), "@1="+text)
		wantFilter(t, "@1:0-"+text, between(1, 0, n))
		wantFilter(t, "@1:"+text+"-99", between(1, n, 99))
		wantText(t, between(1, n, 99), "@1:"+text+"-99")
		if n < api.MaxKey {
			wantFilter(t, "@"+text+"=5", eq(n, 5))
			wantText(t, eq(n, 5), "@"+text+"=5")
		} else {
			wantNo(t, "@"+text+"=5", 1)
			wantNo(t, "* & @"+text+":5-6", 5)
		}
	}
	for lo := range 100 {
		for hi := range 100 {
			s := "@3:" + strconv.Itoa(lo) + "-" + strconv.Itoa(hi)
			if lo <= hi {
				wantFilter(t, s, between(3, lo, hi))
				wantText(t, between(3, lo, hi), s)
			} else {
				wantNo(t, s, strings.Index(s, "-")+1)
			}
		}
	}
}

// What stands behind the ? does not fit.
func TestWhatDoesNotFit(t *testing.T) {
	for _, s := range []string{
		"?", "  ?", "?)", "?&", "?|*", "?5", "?a", "?=", "?:", "?-", " ?)",
		"*?*", "*?)", "*?!*", "*?(*)", "*?^a", "*?@1=5", "*?5", "*?a", "* ?=", "*?:", "*?-",
		"(?", "(?)", "(*?", "(* ?", "(*?(", "(*?*)", "((*)?", "(*)?)", "(*)?(*)", "(*)?*", "(*&?)", "((?)",
		"*&?", "*& ?", "*&?&*", "*&?|*", "*|?", "*|?|*", "*|?&*", "*|?)", "*&?5",
		"!?", "! ?", "!?&*", "!?)", "!?a", "!*?!", "!*?*",
		"^?", "^ ?", "^?5", "^?*", "^?^a", "^?(a)", "^a ?b", "^a?5", "^a?^b",
		"@?", "@?a=5", "@?=5", "@?4=5", "@?99=5", "@?*", "@1?", "@1 ?5", "@1?*", "@1?&*", "@1?-5", "@1?a",
		"@1=?", "@1= ?", "@1=?a", "@1=?=5", "@1=?*", "@1=?@2=5", "@1=5 ?5", "@1=5?-6", "@1=5?:6",
		"@1:?", "@1:?-5", "@1:?a-5", "@1:5?", "@1:5 ?", "@1:5?=6", "@1:5?:6", "@1:5 ?6", "@1:5?&*", "@1:5-?", "@1:5-?a", "@1:5-?-6", "@1:5-?*", "@1:5-6?-7",
		"@1:5-?4", "@1:9-?8&*", "@1:99-?0", "@1:1-?0", "@1:05-?04", "*&(@1:50 - ?49)", "!@1:9-?8",
		"@1=5&?", "^a|^b&?", "!(*?", "!(*&?)", "(*|(*&*)?",
	} {
		wantNo(t, strings.Replace(s, "?", "", 1), strings.IndexByte(s, '?'))
	}
}

// What is no word, or beyond a limit of words, is told as All of word does, whatever stands ahead of it.
func TestWhatIsNoWord(t *testing.T) {
	long := strings.Repeat("*&", 29) + "**"
	for _, s := range []string{"#", "A", "*#", "* abcdefg", "@1=123", "^abcdefg", "@1=5&^A", "*\n", "*&#", "é", "*\x00", "@1:5-100",
		") #", "@4=5 #", "@1:9-8 #", "!!!!!!* #", "( 123",
		strings.Repeat("!", 61), strings.Repeat("(", 61), strings.Repeat(")", 70), long + "*", long + " *",
		strings.Repeat(" ", 81), "*" + strings.Repeat(" ", 80), ")" + strings.Repeat("*", 80), "*" + strings.Repeat("&*", 40), strings.Repeat("!", 1<<20)} {
		_, at, ok := word.All(s)
		if ok {
			t.Fatalf("%q is words", s)
		}
		wantNo(t, s, at)
	}
	wantNo(t, long, 59)
	wantNo(t, ") #", 2)
	wantNo(t, "* #", 2)
	wantNo(t, strings.Repeat(" ", 80)+"*", 0)
	wantNo(t, "*"+strings.Repeat(" ", 78)+")", 79)
}

func TestTextsThatEndTooSoon(t *testing.T) {
	for n := 1; n <= api.MaxWords; n++ {
		wantNo(t, strings.Repeat("!", n), n)
		wantNo(t, strings.Repeat("(", n), n)
		wantNo(t, strings.Repeat("(", n)+"  ", n+2)
	}
	for n := 0; n <= api.MaxText; n++ {
		wantNo(t, strings.Repeat(" ", n), n)
	}
}

func TestTextsThatAreTooDeep(t *testing.T) {
	for n := range 59 {
		s := strings.Repeat("!", n) + "*"
		if n <= 5 {
			wantFilter(t, s, nots(n, all()))
			wantFilter(t, s+" ", nots(n, all()))
		} else {
			wantNo(t, s, len(s))
			wantNo(t, s+"  ", len(s)+2)
			wantNo(t, " ("+s, len(s)+2)
		}
	}
	for n := range 29 {
		for _, mark := range []string{"&", "|"} {
			s := "*" + strings.Repeat(mark+"*", n)
			if _, at, ok := Parse(s); ok != (n <= 5) || !ok && at != len(s) {
				t.Errorf("Parse(%q): %d, %v", s, at, ok)
			}
		}
	}
	// Brackets are no part of the filter: they make it no deeper.
	wantFilter(t, "((!(!(!(!(!((*))))))))", nots(5, all()))
	for _, s := range []string{"!!!!!!*", "(!!!!!!*)", "*|!!!!!*", "!!!!!*&*", "*|(*|(*|(*|(*|(*|*)))))", "!!!!!(*&*)", "*|!!!!(^a&^b)", "((((((!!!!!!@1=5))))))"} {
		wantNo(t, s, len(s))
	}
	// A word that does not fit is told ahead of the depth.
	wantNo(t, "!!!!!!*)", 7)
	wantNo(t, "!!!!!!!!", 8)
	wantNo(t, "!!!!!!@4=5", 7)
	wantNo(t, "!!!!!!@1:5-4", 11)
	wantNo(t, "!!!!!!* *", 8)
}

// Of several words that do not fit the first is told, a range's last below its first among them.
func TestTheFirstThatDoesNotFitIsTold(t *testing.T) {
	wantNo(t, ")*)", 0)
	wantNo(t, "*&)&)", 2)
	wantNo(t, "@4=a", 1)
	wantNo(t, "@1:9-8)", 5)
	wantNo(t, "@1:9-8&@1:7-6", 5)
	wantNo(t, "*)@1:9-8", 1)
	wantNo(t, "@1:9-8&", 5)
	wantNo(t, "(@1:9-8", 6)
}

// model reads a text by states and stacks instead, from the words on: what it wants next, and what is still open.
type model struct {
	open  []string
	parts []api.Filter
}

// binding of what is open: a ( is never closed by a mark.
func modelBinding(mark string) int { return map[string]int{"(": 0, "|": 1, "&": 2, "!": 3}[mark] }

// closeTo joins what binds at least so fast.
func (m *model) closeTo(binding int) {
	for len(m.open) > 0 && modelBinding(m.open[len(m.open)-1]) >= binding {
		mark := m.open[len(m.open)-1]
		m.open = m.open[:len(m.open)-1]
		n := len(m.parts)
		switch mark {
		case "!":
			m.parts[n-1] = not(m.parts[n-1])
		case "&":
			m.parts = append(m.parts[:n-2], and(m.parts[n-2], m.parts[n-1]))
		case "|":
			m.parts = append(m.parts[:n-2], or(m.parts[n-2], m.parts[n-1]))
		}
	}
}

// leaf tells the leaf that the words begin with, and of how many words it is; or how many of them fit, and no.
func leaf(l []word.Word) (f api.Filter, n int, ok bool) {
	is := func(i, kind int, s string) bool { return i < len(l) && l[i].Kind == kind && l[i].S == s }
	num := func(i, least, most int) bool {
		return i < len(l) && l[i].Kind == 2 && l[i].N >= least && l[i].N <= most
	}
	switch {
	case is(0, 3, "*"):
		return all(), 1, true
	case is(0, 3, "^"):
		if len(l) < 2 || l[1].Kind != 1 {
			return f, 1, false
		}
		return prefix(l[1].S), 2, true
	case !is(0, 3, "@"):
		return f, 0, false
	case !num(1, 0, 3):
		return f, 1, false
	case is(2, 3, "="):
		if !num(3, 0, 99) {
			return f, 3, false
		}
		return eq(l[1].N, l[3].N), 4, true
	case !is(2, 3, ":"):
		return f, 2, false
	case !num(3, 0, 99):
		return f, 3, false
	case !is(4, 3, "-"):
		return f, 4, false
	case !num(5, l[3].N, 99):
		return f, 5, false
	}
	return between(l[1].N, l[3].N, l[5].N), 6, true
}

func depth(f api.Filter) int {
	deepest := 0
	for _, arg := range f.Args {
		deepest = max(deepest, depth(arg))
	}
	return deepest + 1
}

func modelParse(s string) (api.Filter, int, bool) {
	l, at, ok := word.All(s)
	if !ok {
		return api.Filter{}, at, false
	}
	where := func(i int) int {
		if i < len(l) {
			return l[i].At
		}
		return len(s)
	}
	var m model
	whole := false // what was read so far ends in a filter
	brackets := 0
	for i := 0; i < len(l) || !whole || brackets > 0; {
		var mark string
		if i < len(l) && l[i].Kind == 3 {
			mark = l[i].S
		}
		switch {
		case !whole && (mark == "(" || mark == "!"):
			if mark == "(" {
				brackets++
			}
			m.open = append(m.open, mark)
			i++
		case !whole:
			f, n, ok := leaf(l[i:])
			if !ok {
				return api.Filter{}, where(i + n), false
			}
			m.parts = append(m.parts, f)
			i += n
			whole = true
		case mark == "&" || mark == "|":
			m.closeTo(modelBinding(mark))
			m.open = append(m.open, mark)
			i++
			whole = false
		case mark == ")" && brackets > 0:
			m.closeTo(1)
			m.open = m.open[:len(m.open)-1]
			brackets--
			i++
		default:
			return api.Filter{}, where(i), false
		}
	}
	m.closeTo(1)
	if depth(m.parts[0]) > 6 {
		return api.Filter{}, len(s), false
	}
	return m.parts[0], 0, true
}

func againstModel(t *testing.T, s string) {
	t.Helper()
	f, at, ok := Parse(s)
	wf, wat, wok := modelParse(s)
	if at != wat || ok != wok || !reflect.DeepEqual(f, wf) {
		t.Fatalf("Parse(%q) = %v, %d, %v, not %v, %d, %v", s, f, at, ok, wf, wat, wok)
	}
	if !ok {
		return
	}
	if text, can := Write(f); can {
		if again, _, ok := Parse(text); !ok || !reflect.DeepEqual(again, f) {
			t.Fatalf("%q is written as %q: %v", s, text, again)
		}
		if len(text) > len(s) {
			t.Fatalf("%q is written longer: %q", s, text)
		}
	} else {
		t.Fatalf("%q is read, and not written", s)
	}
}

// rows goes through all rows of so many pieces.
func rows(pieces []string, left int, s string, each func(s string)) {
	each(s)
	if left == 0 {
		return
	}
	for _, p := range pieces {
		rows(pieces, left-1, s+p, each)
	}
}

func TestEachShortText(t *testing.T) {
	each := func(s string) { againstModel(t, s) }
	rows([]string{"*", "!", "&", "|", "(", ")"}, 7, "", each)
	rows([]string{"*", "^", "a ", "@", "1 ", "=", ":", "-", "!", "&", "("}, 4, "", each)
	rows([]string{"^a", "@1=5", "@1:5-6", "&", "|", "!", "(", ")", " "}, 5, "", each)
	for _, start := range []string{"@", "@1", "@1=", "@1:", "@1:5", "@1:5-", "@1:5-7", "@1=5", "^", "^a", "(^a", "(@1:5-", "!^"} {
		rows([]string{"*", "^", "b ", "@", "1 ", "4 ", "7 ", "=", ":", "-", "&", ")", "#"}, 3, start, each)
	}
}

// Pieces laid one behind the other by a rule that goes through many rows of them, more of them such as fit than not.
func TestLongTexts(t *testing.T) {
	row := uint32(1)
	next := func(n int) int {
		row = row*1664525 + 1013904223
		return int(row>>16) % n
	}
	wants := []string{"*", "*", "^a", "@1=5", "@2:3-40", "!", "(", "(", "^abc", "@0:9-9"}
	haves := []string{"&", "|", ")", "&", "|", ")", " & "}
	others := []string{"*", ")", "&", "5", "a", "@", "^", "@4=1", "@1:6-5", "!", "#", "("}
	read := 0
	for range 60000 {
		s, whole, brackets := "", false, 0
		size := next(80)
		for len(s) < size {
			from := wants
			if whole {
				from = haves
			}
			p := from[next(len(from))]
			if p == ")" && brackets == 0 {
				p = "|"
			}
			if next(60) == 0 {
				p = others[next(len(others))]
			}
			switch p {
			case "(":
				brackets++
			case ")":
				brackets--
			case "!":
			default:
				whole = !whole
			}
			s += p
		}
		if !whole {
			s += "*"
		}
		s += strings.Repeat(")", max(brackets, 0))
		if _, _, ok := Parse(s); ok {
			read++
		}
		againstModel(t, s)
	}
	if read < 5000 {
		t.Errorf("only %d were read", read)
	}
}

// bracketPairs tells where the brackets of a text stand.
func bracketPairs(s string) (l [][2]int) {
	var open []int
	for i := range s {
		switch s[i] {
		case '(':
			open = append(open, i)
		case ')':
			l = append(l, [2]int{open[len(open)-1], i})
			open = open[:len(open)-1]
		}
	}
	return l
}

// What is written is read; without any one of its pairs of brackets it were another filter's.
func wantReadAgain(t *testing.T, f api.Filter) {
	t.Helper()
	s, ok := Write(f)
	if !ok {
		t.Fatalf("Write(%v): no", f)
	}
	if again, at, ok := Parse(s); !ok || at != 0 || !reflect.DeepEqual(again, f) {
		t.Fatalf("Write(%v) = %q, read as %v", f, s, again)
	}
	if strings.Contains(s, " ") {
		t.Fatalf("Write(%v) = %q", f, s)
	}
	for _, p := range bracketPairs(s) {
		less := s[:p[0]] + s[p[0]+1:p[1]] + s[p[1]+1:]
		if other, _, ok := modelParse(less); ok && equal(other, f) {
			t.Fatalf("Write(%v) = %q, though %q is read so too", f, s, less)
		}
	}
}

// layers tells all filters of one Op around those given.
func layers(l []api.Filter) []api.Filter {
	var more []api.Filter
	for _, a := range l {
		more = append(more, not(a))
		for _, b := range l {
			more = append(more, and(a, b), or(a, b))
		}
	}
	return more
}

func TestWhatIsWrittenIsRead(t *testing.T) {
	leaves := []api.Filter{all(), eq(1, 5), between(2, 0, 10), prefix("ab")}
	second := append(slices.Clone(leaves), layers(leaves)...)
	for _, f := range append(second, layers(second)...) {
		wantReadAgain(t, f)
	}
	// Deeper ones, of one leaf.
	l := []api.Filter{all()}
	for range 3 {
		l = append(slices.Clone(l[:1]), layers(l)...)
	}
	for _, f := range l {
		wantReadAgain(t, f)
	}
	for i, f := range l {
		wantReadAgain(t, not(f))
		wantReadAgain(t, and(f, l[(i*7+3)%len(l)]))
		wantReadAgain(t, or(f, l[(i*11+5)%len(l)]))
	}
}

func wantTextOf(t *testing.T, f api.Filter, words, bytes int, want bool) {
	t.Helper()
	if !May(f) {
		t.Fatalf("%v may not be", f)
	}
	// The sizes are told apart from what is written, so that a test can't miss its limit.
	s := text(f, loose)
	if n := countWords(s); n != words || len(s) != bytes {
		t.Fatalf("%q: %d words, %d bytes", s, n, len(s))
	}
	switch got, ok := Write(f); {
	case ok != want:
		t.Errorf("Write of %d words, %d bytes: %v", words, bytes, ok)
	case ok && got != s, !ok && got != "":
		t.Errorf("Write of %d words, %d bytes: %q", words, bytes, got)
	}
	if want {
		wantReadAgain(t, f)
	}
}

// countWords counts by hand: a mark is a word, and so is each run of letters or digits, as no two runs stand side by side.
func countWords(s string) int {
	n, inRun := 0, false
	for i := range s {
		run := 'a' <= s[i] && s[i] <= 'z' || '0' <= s[i] && s[i] <= '9'
		if !run || !inRun {
			n++
		}
		inRun = run
	}
	return n
}

func TestWriteAtTheLimitOfWords(t *testing.T) {
	most := full(api.Or, 5) // 45 words
	right := func(n int) api.Filter { return and(between(1, 2, 3), nots(n, between(1, 2, 3))) }
	wantTextOf(t, or(most, right(0)), 59, 59, true)
	wantTextOf(t, or(most, right(1)), 60, 60, true)
	wantTextOf(t, or(most, right(2)), 61, 61, false)
	wantTextOf(t, or(most, most), 93, 93, false)
	wantTextOf(t, full(api.And, 6), 93, 93, false)
	// As many words, of more bytes.
	wide := func(n int) api.Filter { return and(between(1, 22, 33), nots(n, between(1, 22, 33))) }
	wantTextOf(t, or(most, wide(1)), 60, 64, true)
	wantTextOf(t, or(most, wide(2)), 61, 65, false)
}

func TestWriteAtTheLimitOfBytes(t *testing.T) {
	three := and(and(prefix("abcdef"), prefix("abcdef")), prefix("abcdef"))
	nine := or(or(three, three), three)
	wantTextOf(t, or(nine, prefix("abcdef")), 29, 79, true)
	wantTextOf(t, or(nine, not(prefix("abcdef"))), 30, 80, true)
	wantTextOf(t, or(nine, nots(2, prefix("abcdef"))), 31, 81, false)
	wantTextOf(t, or(nine, between(1, 10, 99)), 33, 80, true)
	wantTextOf(t, or(nine, not(between(1, 10, 99))), 34, 81, false)
	pair := and(between(3, 10, 99), between(3, 10, 99))
	wantTextOf(t, or(or(pair, pair), or(pair, pair)), 57, 73, true)
}

func TestTheSameTellsTheSame(t *testing.T) {
	for s, f := range texts() {
		a, _, _ := Parse(s)
		// What was told is the caller's own: a change of it is seen nowhere else.
		for i := range a.Args {
			a.Args[i] = api.Filter{}
		}
		wantFilter(t, s, f)
		wantText(t, f, s)
		wantText(t, f, s)
	}
}

// What is handed in is not changed, the spare room of its lists neither.
func TestNothingHandedInIsChanged(t *testing.T) {
	for _, f := range samples() {
		var roomy func(f api.Filter) api.Filter
		roomy = func(f api.Filter) api.Filter {
			l := make([]api.Filter, 0, len(f.Args)+2)
			for _, arg := range f.Args {
				l = append(l, roomy(arg))
			}
			copy(l[len(l):cap(l)], []api.Filter{{Op: 77}, {Op: 78}})
			f.Args = l
			return f
		}
		a, b := roomy(f), roomy(f)
		May(a)
		Same(a, b)
		Write(a)
		if !equal(a, f) || !equal(b, f) {
			t.Errorf("%v was changed to %v", f, a)
		}
		if n := len(a.Args); a.Args[:n+2][n].Op != 77 || a.Args[:n+2][n+1].Op != 78 {
			t.Errorf("%v: the room behind its Args was changed", f)
		}
	}
}

// tags tells all Tags of a filter.
func tags(f api.Filter) []string {
	l := []string{f.Tag}
	for _, arg := range f.Args {
		l = append(l, tags(arg)...)
	}
	return l
}

func inside(s, of string) bool {
	from, p := uintptr(unsafe.Pointer(unsafe.StringData(of))), uintptr(unsafe.Pointer(unsafe.StringData(s)))
	return s != "" && from <= p && p < from+uintptr(len(of))
}

func TestWhatIsToldIsNewMemory(t *testing.T) {
	s := strings.Clone("^abcdef&!(^xyz|*)&^ab")
	f, _, ok := Parse(s)
	if !ok {
		t.Fatal("no")
	}
	for _, tag := range tags(f) {
		if inside(tag, s) {
			t.Errorf("%q lies in the text", tag)
		}
	}
	tag := strings.Clone("ab")
	if text, _ := Write(prefix(tag)); inside(text, tag) {
		t.Error("the text lies in the Tag")
	}
	// No two lists of one answer are one.
	f, _, _ = Parse("(*&*)|(*&*)")
	f.Args[0].Args[0] = prefix("z")
	_ = append(f.Args[0].Args, prefix("y"))
	wantText(t, f, "^z&*|*&*")
}

func TestFaultsAreWrapped(t *testing.T) {
	var why fault
	if err := check(or(all(), not(eq(4, 0))), api.MaxDeep); !errors.As(err, &why) || why.why != "too great" || err.Error() != "Args: Args: Op 2: Key: too great" {
		t.Errorf("%v", err)
	}
	if err := check(or(all(), not(eq(3, 0))), api.MaxDeep); err != nil {
		t.Errorf("%v", err)
	}
	var m misfit
	if _, err := parse("*|!(@1:5-4)"); !errors.As(err, &m) || m.at != 9 || err.Error() != "|: !: (: @: range: last: does not fit at 9" {
		t.Errorf("%v", err)
	}
	if _, err := parse("*|!(@1:4-5)"); err != nil {
		t.Errorf("%v", err)
	}
}
