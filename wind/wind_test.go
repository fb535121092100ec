package wind

import (
	"math"
	"slices"
	"strconv"
	"strings"
	"testing"

	"cardamom/api"
)

func same(a, b api.Wind) bool {
	return a.Base == b.Base && a.Next == b.Next && slices.Equal(a.L, b.L) && slices.Equal(a.Wait, b.Wait)
}

func copyOf(w api.Wind) api.Wind {
	w.L, w.Wait = slices.Clone(w.L), slices.Clone(w.Wait)
	return w
}

// row is what was sent over a link from its beginning on, and how many of it are known to have come.
type row struct {
	sent []string
	come int
}

// wind is what the promise's words come to of the whole row, however it came about: those behind what has come are under way, as many as may be, and the rest waits.
func (r row) wind() api.Wind {
	under := min(len(r.sent), r.come+api.MaxWind)
	w := api.Wind{Base: r.come + 1, Next: under + 1, Wait: slices.Clone(r.sent[under:])}
	for n := r.come; n < under; n++ {
		w.L = append(w.L, api.Seg{Num: n + 1, B: r.sent[n]})
	}
	return w
}

// texts is n texts, each another one: 1, 2, ..
func texts(n int) []string {
	var l []string
	for i := range n {
		l = append(l, strconv.Itoa(i+1))
	}
	return l
}

// segs is those texts under way from one number to another.
func segs(from, to int) []api.Seg {
	var l []api.Seg
	for n := from; n <= to; n++ {
		l = append(l, api.Seg{Num: n, B: strconv.Itoa(n)})
	}
	return l
}

// sendAll is w behind all of l sent.
func sendAll(w api.Wind, l ...string) api.Wind {
	for _, s := range l {
		w = Send(w, s)
	}
	return w
}

func want(t *testing.T, what string, got, want api.Wind) {
	t.Helper()
	if !same(got, want) {
		t.Fatalf("%s: %+v, want %+v", what, got, want)
	}
}

// farOff is numbers that are far from each in use.
func farOff() []int {
	return []int{math.MinInt, math.MinInt + 1, math.MinInt + 4, math.MinInt32 - 1, math.MinInt32, -1000000, -1000, 1000, 1000000, math.MaxInt32 - 1, math.MaxInt32, math.MaxUint32, math.MaxInt - 4, math.MaxInt - 1, math.MaxInt}
}

func TestNew(t *testing.T) {
	w := New()
	want(t, "New", w, api.Wind{Base: 1, Next: 1})
	if len(w.L) != 0 || len(w.Wait) != 0 {
		t.Errorf("nothing was sent: %+v", w)
	}
}

func TestExample(t *testing.T) {
	w := sendAll(New(), "a", "b", "c", "d", "e")
	want(t, "five sent", w, api.Wind{Base: 1, Next: 5, L: []api.Seg{{Num: 1, B: "a"}, {Num: 2, B: "b"}, {Num: 3, B: "c"}, {Num: 4, B: "d"}}, Wait: []string{"e"}})
	if len(w.L) != 4 {
		t.Errorf("%d are under way", len(w.L))
	}
}

// TestSend: none, one, one fewer than may be, as many, one more that waits, many that wait.
func TestSend(t *testing.T) {
	for _, x := range []struct {
		n    int
		want api.Wind
	}{
		{0, api.Wind{Base: 1, Next: 1}},
		{1, api.Wind{Base: 1, Next: 2, L: segs(1, 1)}},
		{2, api.Wind{Base: 1, Next: 3, L: segs(1, 2)}},
		{3, api.Wind{Base: 1, Next: 4, L: segs(1, 3)}},
		{4, api.Wind{Base: 1, Next: 5, L: segs(1, 4)}},
		{5, api.Wind{Base: 1, Next: 5, L: segs(1, 4), Wait: []string{"5"}}},
		{6, api.Wind{Base: 1, Next: 5, L: segs(1, 4), Wait: []string{"5", "6"}}},
		{300, api.Wind{Base: 1, Next: 5, L: segs(1, 4), Wait: texts(300)[4:]}},
	} {
		want(t, strconv.Itoa(x.n)+" sent", sendAll(New(), texts(x.n)...), x.want)
	}
}

// TestSendFurtherOn: the same where some have come already, and from any number on.
func TestSendFurtherOn(t *testing.T) {
	for _, base := range []int{2, 3, 4, 5, 6, 100, 1000000, math.MaxInt32} {
		for n := range 8 {
			w := api.Wind{Base: base, Next: base}
			under := min(n, 4)
			wanted := api.Wind{Base: base, Next: base + under, Wait: texts(n)[under:]}
			for i := range under {
				wanted.L = append(wanted.L, api.Seg{Num: base + i, B: texts(n)[i]})
			}
			want(t, strconv.Itoa(n)+" sent from "+strconv.Itoa(base), sendAll(w, texts(n)...), wanted)
		}
	}
}

// TestTold: one told, some, all that are under way; room for one, for some, for all that wait, and for more than wait.
func TestTold(t *testing.T) {
	for _, x := range []struct {
		n, up int
		want  api.Wind
	}{
		{1, 1, api.Wind{Base: 2, Next: 2}},
		{2, 1, api.Wind{Base: 2, Next: 3, L: segs(2, 2)}},
		{3, 2, api.Wind{Base: 3, Next: 4, L: segs(3, 3)}},
		{4, 1, api.Wind{Base: 2, Next: 5, L: segs(2, 4)}},
		{4, 2, api.Wind{Base: 3, Next: 5, L: segs(3, 4)}},
		{4, 3, api.Wind{Base: 4, Next: 5, L: segs(4, 4)}},
		{4, 4, api.Wind{Base: 5, Next: 5}},
		{5, 1, api.Wind{Base: 2, Next: 6, L: segs(2, 5)}},
		{5, 2, api.Wind{Base: 3, Next: 6, L: segs(3, 5)}},
		{5, 4, api.Wind{Base: 5, Next: 6, L: segs(5, 5)}},
		{6, 1, api.Wind{Base: 2, Next: 6, L: segs(2, 5), Wait: []string{"6"}}},
		{6, 2, api.Wind{Base: 3, Next: 7, L: segs(3, 6)}},
		{6, 3, api.Wind{Base: 4, Next: 7, L: segs(4, 6)}},
		{8, 3, api.Wind{Base: 4, Next: 8, L: segs(4, 7), Wait: []string{"8"}}},
		{8, 4, api.Wind{Base: 5, Next: 9, L: segs(5, 8)}},
		{9, 4, api.Wind{Base: 5, Next: 9, L: segs(5, 8), Wait: []string{"9"}}},
		{300, 1, api.Wind{Base: 2, Next: 6, L: segs(2, 5), Wait: texts(300)[5:]}},
		{300, 4, api.Wind{Base: 5, Next: 9, L: segs(5, 8), Wait: texts(300)[8:]}},
	} {
		what := strconv.Itoa(x.n) + " sent, told " + strconv.Itoa(x.up)
		w := Told(sendAll(New(), texts(x.n)...), x.up)
		want(t, what, w, x.want)
		want(t, what+" twice", Told(w, x.up), x.want)
	}
}

// TestChangesNothing: each number below Base, and from Next on.
func TestChangesNothing(t *testing.T) {
	for what, w := range map[string]api.Wind{
		"new":            New(),
		"one sent":       sendAll(New(), "a"),
		"three sent":     sendAll(New(), texts(3)...),
		"four sent":      sendAll(New(), texts(4)...),
		"five sent":      sendAll(New(), texts(5)...),
		"forty sent":     sendAll(New(), texts(40)...),
		"all come":       Told(sendAll(New(), texts(4)...), 4),
		"some come":      Told(sendAll(New(), texts(4)...), 2),
		"some more wait": Told(sendAll(New(), texts(40)...), 3),
	} {
		was := copyOf(w)
		l := append(farOff(), 0, -1, -2, w.Base-1, w.Base-2, w.Base-3, w.Base-5, w.Next, w.Next+1, w.Next+2, w.Next+4, w.Next+5)
		for _, up := range l {
			if up >= w.Base && up < w.Next {
				t.Fatalf("%s: %d is one that changes something", what, up)
			}
			want(t, what+", told "+strconv.Itoa(up), Told(w, up), was)
		}
	}
}

// TestEachUp: each number at each row of up to fourteen, and what is sent behind it.
func TestEachUp(t *testing.T) {
	for n := range 15 {
		for come := range n + 1 {
			r := row{texts(n), come}
			w := r.wind()
			for _, up := range append(farOff(), -7, -6, -5, -4, -3, -2, -1, 0, 1, 2, 3, 4, 5, 6, 7, 8, 9, 10, 11, 12, 13, 14, 15, 16, 17, 18, 19, 20, 21) {
				then := r
				if come < up && up <= min(n, come+4) {
					then.come = up
				}
				told := Told(w, up)
				what := strconv.Itoa(n) + " sent, " + strconv.Itoa(come) + " come, told " + strconv.Itoa(up)
				want(t, what, told, then.wind())
				then.sent = append(slices.Clone(then.sent), "more")
				want(t, what+", one more", Send(told, "more"), then.wind())
			}
		}
	}
}

// TestOneByOne: what waits goes one for one that comes, to the last one.
func TestOneByOne(t *testing.T) {
	r := row{sent: texts(50)}
	w := sendAll(New(), r.sent...)
	for up := 1; up <= 50; up++ {
		w = Told(w, up)
		r.come = up
		want(t, "told "+strconv.Itoa(up), w, r.wind())
	}
	want(t, "the end", w, api.Wind{Base: 51, Next: 51})
}

// TestTexts: a text is not looked into: an empty one is one, and one that was sent ahead is one more.
func TestTexts(t *testing.T) {
	every := make([]byte, 256)
	for i := range every {
		every[i] = byte(i)
	}
	long := strings.Repeat("long", 1<<18)
	for _, l := range [][]string{
		{""}, {"", ""}, {"", "", "", "", "", "", "", "", ""},
		{long}, {long, long, "", long, long, long, "", long},
		{"a", "a", "a", "a", "a", "a", "a", "a", "a"},
		{"a", "", "a", "", "", "a", "a", ""},
		{string(every), "\x00", "\xff\xfe", "\x00\x00", "é", "\xc3", "\n", " "},
		{"1", "2", "1", "-1", "0", "4", "4", "9223372036854775808"},
	} {
		r := row{sent: l}
		w := sendAll(New(), l...)
		if !same(w, r.wind()) {
			t.Fatalf("%.40q sent: not as they were", l)
		}
		for r.come < len(l) {
			r.come++
			if w = Told(w, r.come); !same(w, r.wind()) {
				t.Fatalf("%.40q, %d come: not as they were", l, r.come)
			}
		}
	}
}

// TestNilAndEmpty: a list without anything is one, be it there or not.
func TestNilAndEmpty(t *testing.T) {
	for _, l := range [][]api.Seg{nil, {}, make([]api.Seg, 0, 3), segs(1, 3)[:0]} {
		for _, wait := range [][]string{nil, {}, make([]string, 0, 3), texts(3)[:0]} {
			w := api.Wind{Base: 3, Next: 3, L: l, Wait: wait}
			want(t, "Send", Send(w, "x"), api.Wind{Base: 3, Next: 4, L: []api.Seg{{Num: 3, B: "x"}}})
			for _, up := range []int{1, 2, 3, 4} {
				want(t, "Told", Told(w, up), api.Wind{Base: 3, Next: 3})
			}
			w.Next = 4
			want(t, "Told of one that is not there", Told(w, 3), api.Wind{Base: 4, Next: 4})
		}
	}
}
