package rcvr

import (
	"fmt"
	"maps"
	"slices"
	"strings"
	"testing"

	"cardamom/api"
	"cardamom/wind"
)

// chance tells numbers below n that look like chance and are the same each time.
type chance uint64

func (c *chance) below(n int) int {
	*c = *c*6364136223846793005 + 1442695040888963407
	return int(uint64(*c) >> 33 % uint64(n))
}

// text is one of few, so that many are alike, or a long one.
func (c *chance) text() string {
	switch c.below(8) {
	case 0:
		return ""
	case 1:
		return strings.Repeat("x", c.below(3000))
	}
	return fmt.Sprint(c.below(5))
}

// row is what came from the beginning on: of each number the text that it came with first.
type row map[int]string

// up is how many came without a gap.
func (w row) up() int {
	n := 0
	for {
		if _, came := w[n+1]; !came {
			return n
		}
		n++
	}
}

// comes notes a piece, if it is one that may come and did not yet.
func (w row) comes(s api.Seg) {
	if _, came := w[s.Num]; !came && 1 <= s.Num && s.Num <= w.up()+4 {
		w[s.Num] = s.B
	}
}

// rcvr is what the promise's words come to of the whole row, in whatever order it came.
func (w row) rcvr() api.Rcvr {
	up := w.up()
	r := api.Rcvr{Got: api.Know{Up: up}}
	for _, n := range slices.Sorted(maps.Keys(w)) {
		if n > up {
			r.Got.More = append(r.Got.More, n)
			r.L = append(r.L, api.Seg{Num: n, B: w[n]})
		}
	}
	return r
}

// texts is those from one number to another.
func (w row) texts(from, to int) []string {
	var l []string
	for n := from; n <= to; n++ {
		l = append(l, w[n])
	}
	return l
}

// step hands a piece in, and asks for what the row comes to with it, and that what is told is what is new of it.
func (w row) step(t *testing.T, r api.Rcvr, s api.Seg) (api.Rcvr, []string) {
	t.Helper()
	was := w.up()
	w.comes(s)
	got, told := Comes(r, s)
	want(t, fmt.Sprintf("%+v, then %d %.20q", r.Got, s.Num, s.B), got, told, w.rcvr(), w.texts(was+1, w.up()))
	return got, told
}

// TestAllShortRows: each row of six pieces of numbers 0 to 6, each with a text of its own.
func TestAllShortRows(t *testing.T) {
	var from func(r api.Rcvr, w row, left int)
	from = func(r api.Rcvr, w row, left int) {
		if left == 0 {
			return
		}
		for n := range 7 {
			then := maps.Clone(w)
			got, _ := then.step(t, r, api.Seg{Num: n, B: fmt.Sprint(n, left)})
			from(got, then, left-1)
		}
	}
	from(api.Rcvr{}, row{}, 6)
}

// orders goes through each order of n numbers from 1 on.
func orders(n int, do func(l []int)) {
	var from func(l []int)
	from = func(l []int) {
		if len(l) == n {
			do(l)
			return
		}
		for m := 1; m <= n; m++ {
			if !slices.Contains(l, m) {
				from(append(l[:len(l):len(l)], m))
			}
		}
	}
	from(nil)
}

// TestEachOrder: seven pieces in each order there is, again and again till all have come: each is told once, in order.
func TestEachOrder(t *testing.T) {
	orders(7, func(l []int) {
		var r api.Rcvr
		var all []string
		w := row{}
		for round := 0; len(all) < 7; round++ {
			if round == 7 {
				t.Fatalf("%v: %q is told in the end", l, all)
			}
			for _, n := range l {
				var told []string
				r, told = w.step(t, r, api.Seg{Num: n, B: fmt.Sprint("piece ", n)})
				all = append(all, told...)
			}
		}
		want(t, fmt.Sprint(l), r, all, state(7), row{1: "piece 1", 2: "piece 2", 3: "piece 3", 4: "piece 4", 5: "piece 5", 6: "piece 6", 7: "piece 7"}.texts(1, 7))
	})
}

// TestByChance: numbers by chance around those in use, each with another text each time.
func TestByChance(t *testing.T) {
	c := chance(21)
	for i := range 150 {
		var r api.Rcvr
		w := row{}
		for range 250 {
			n := r.Got.Up - 3 + c.below(9+i%4)
			if c.below(12) == 0 {
				l := farOff()
				n = l[c.below(len(l))]
			}
			r, _ = w.step(t, r, api.Seg{Num: n, B: c.text()})
		}
	}
}

// way is a link on which pieces are lost, come twice, late and in any order.
type way struct {
	*chance
	fly []api.Seg
}

func (y *way) send(s api.Seg) {
	switch y.below(6) {
	case 0: // It is lost.
	case 1:
		y.fly = append(y.fly, s)
		fallthrough
	default:
		y.fly = append(y.fly, s)
	}
}

// comes takes one off its way; now and then it stays there, and comes once more.
func (y *way) comes() api.Seg {
	at := y.below(len(y.fly))
	s := y.fly[at]
	if y.below(5) > 0 {
		y.fly = slices.Delete(y.fly, at, at+1)
	}
	return s
}

// run sends all of sent, each again till it is known to have come, and tells what was told.
func run(t *testing.T, c *chance, sent []string) (told []string) {
	t.Helper()
	var r api.Rcvr
	w, pieces, went := wind.New(), row{}, row{}
	there := way{chance: c}
	for i := 0; len(told) < len(sent) || len(w.L) > 0; i++ {
		if i == 100*len(sent)+1000 {
			t.Fatalf("of %d %d are told, and no more: %+v", len(sent), len(told), r)
		}
		if i < len(sent) {
			w = wind.Send(w, sent[i])
		}
		for _, s := range w.L {
			went[s.Num] = s.B
			there.send(s)
		}
		for range c.below(7) {
			if len(there.fly) > 0 {
				var more []string
				r, more = pieces.step(t, r, there.comes())
				told = append(told, more...)
			}
		}
		if c.below(3) > 0 {
			w = wind.Told(w, r.Got.Up)
		}
	}
	want(t, "the end", r, nil, api.Rcvr{Got: api.Know{Up: len(sent)}}, nil)
	if !maps.Equal(went, pieces) {
		t.Fatal("what came is not what went out")
	}
	return told
}

// TestAllComes: where each is sent again till it has come, all come: each once, in order, with its text.
func TestAllComes(t *testing.T) {
	c := chance(2021)
	for i := range 60 {
		var sent []string
		for range i * 2 {
			sent = append(sent, c.text())
		}
		if told := run(t, &c, sent); !slices.Equal(told, sent) {
			t.Fatalf("row %d: %.50q is told, %.50q was sent", i, told, sent)
		}
	}
}

// TestLongRow: more pieces than any link has, in order, and each four from the last to the first.
func TestLongRow(t *testing.T) {
	var r, back api.Rcvr
	for n := 1; n <= 4000; n++ {
		r = comes(t, r, seg(n), state(n), seg(n).B)
		at := (n-1)/4*4 + 4 - (n-1)%4
		var told []string
		if back, told = Comes(back, seg(at)); n%4 != 0 {
			want(t, "ahead", api.Rcvr{Got: api.Know{Up: back.Got.Up}}, told, api.Rcvr{Got: api.Know{Up: (n - 1) / 4 * 4}}, nil)
			continue
		}
		want(t, "the last of four", back, told, state(n), []string{seg(n - 3).B, seg(n - 2).B, seg(n - 1).B, seg(n).B})
	}
}
