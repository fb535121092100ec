package wind

import (
	"fmt"
	"strings"
	"testing"

	"cardamom/api"
)

// chance tells numbers below n that look like chance and are the same each time.
type chance uint64

func (c *chance) below(n int) int {
	*c = *c*6364136223846793005 + 1442695040888963407
	return int(uint64(*c) >> 33 % uint64(n))
}

// text is one of few, so that many are alike, or a long one.
func (c *chance) text() string {
	switch c.below(8) {
	case 0:
		return ""
	case 1:
		return strings.Repeat("x", c.below(3000))
	}
	return fmt.Sprint(c.below(5))
}

// around is mostly a number near those in use, now and then one far off.
func (c *chance) around(w api.Wind) int {
	if c.below(6) == 0 {
		l := farOff()
		return l[c.below(len(l))]
	}
	return w.Base - 3 + c.below(w.Next-w.Base+7)
}

// whole says what w must be like whatever was sent and told.
func whole(t *testing.T, what string, w api.Wind) {
	t.Helper()
	switch {
	case len(w.L) > 4 || w.Next > w.Base+4:
		t.Fatalf("%s: too many are under way: %+v", what, w)
	case len(w.L) != w.Next-w.Base:
		t.Fatalf("%s: from Base to below Next there are others: %+v", what, w)
	case len(w.Wait) > 0 && len(w.L) < 4:
		t.Fatalf("%s: it waits though there is room: %+v", what, w)
	}
	for i, s := range w.L {
		if s.Num != w.Base+i {
			t.Fatalf("%s: number %d at place %d: %+v", what, s.Num, i, w)
		}
	}
}

// link notes under which number each text went out: each once, in order.
type link struct {
	row
	out []string
}

// sees is what went out newly in w.
func (k *link) sees(t *testing.T, what string, w api.Wind) {
	t.Helper()
	for _, s := range w.L {
		switch {
		case s.Num <= len(k.out):
			if k.out[s.Num-1] != s.B {
				t.Fatalf("%s: number %d is %q now, was %q", what, s.Num, s.B, k.out[s.Num-1])
			}
		case s.Num == len(k.out)+1:
			k.out = append(k.out, s.B)
		default:
			t.Fatalf("%s: number %d goes out behind %d", what, s.Num, len(k.out))
		}
	}
	for i, s := range k.out {
		if k.sent[i] != s {
			t.Fatalf("%s: number %d is %q, sent was %q", what, i+1, s, k.sent[i])
		}
	}
}

// step sends (of eight so often as sends says) or tells a number.
func (k *link) step(c *chance, w api.Wind, sends int) (api.Wind, string) {
	if c.below(8) < sends {
		s := c.text()
		k.sent = append(k.sent, s)
		return Send(w, s), fmt.Sprintf("%d sent", len(k.sent))
	}
	up := c.around(w)
	if k.come < up && up < w.Next {
		k.come = up
	}
	return Told(w, up), fmt.Sprintf("told %d", up)
}

// TestLongRows: sendings and tellings by chance, many of the one or of the other, and all told at the end.
func TestLongRows(t *testing.T) {
	c := chance(20)
	for r := range 120 {
		k, w, what := &link{}, New(), ""
		for range 250 {
			w, what = k.step(&c, w, 1+r%7)
			want(t, what, w, k.wind())
			whole(t, what, w)
			k.sees(t, what, w)
		}
		for len(w.L) > 0 {
			k.come += 1 + c.below(len(w.L))
			w = Told(w, k.come)
			want(t, "at the end", w, k.wind())
			k.sees(t, "at the end", w)
		}
		if len(k.out) != len(k.sent) || len(w.Wait) != 0 || w.Base != len(k.sent)+1 || w.Next != w.Base {
			t.Fatalf("row %d: %d of %d went out: %+v", r, len(k.out), len(k.sent), w)
		}
	}
}

// TestOneLongRow: more than any link sends, with many that wait.
func TestOneLongRow(t *testing.T) {
	var r row
	w := New()
	for n := range 3000 {
		s := fmt.Sprint(n)
		r.sent = append(r.sent, s)
		if w = Send(w, s); n%3 == 2 {
			r.come++
			w = Told(w, r.come)
		}
		whole(t, s, w)
	}
	want(t, "sent", w, r.wind())
	for r.come < 3000 {
		r.come = min(r.come+4, 3000)
		w = Told(w, r.come)
		whole(t, "told", w)
	}
	want(t, "told", w, api.Wind{Base: 3001, Next: 3001})
}

// TestAllShortRows: each row of seven calls out of six (two that send, four that tell, of which two change nothing), from the beginning, and of six where some wait.
func TestAllShortRows(t *testing.T) {
	var from func(w api.Wind, r row, left int)
	from = func(w api.Wind, r row, left int) {
		want(t, fmt.Sprint(r), w, r.wind())
		whole(t, fmt.Sprint(r), w)
		if left == 0 {
			return
		}
		for _, s := range []string{"a", ""} {
			from(Send(w, s), row{append(r.sent[:len(r.sent):len(r.sent)], s), r.come}, left-1)
		}
		for _, up := range []int{w.Base - 1, w.Base, w.Next - 1, w.Next} {
			then := r
			if r.come < up && up < w.Next {
				then.come = up
			}
			from(Told(w, up), then, left-1)
		}
	}
	from(New(), row{}, 7)
	from(sendAll(New(), texts(6)...), row{sent: texts(6)}, 6)
}
