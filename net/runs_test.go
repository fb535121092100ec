package net

import (
	"fmt"
	"strings"
	"testing"

	"cardamom/api"
)

// chance tells numbers below n that look like chance and are the same each time.
type chance uint64

func (c *chance) below(n int) int {
	*c = *c*6364136223846793005 + 1442695040888963407
	return int(uint64(*c) >> 33 % uint64(n))
}

// gram is one of few, so that many are alike, or a long one, or any bytes, or none.
func (c *chance) gram() api.Gram {
	g := api.Gram{From: 1 + c.below(5), To: 1 + c.below(5)}
	switch c.below(6) {
	case 0:
	case 1:
		g.B = strings.Repeat("x", c.below(api.MaxFrame))
	case 2:
		var b []byte
		for range c.below(9) {
			b = append(b, byte(c.below(256)))
		}
		g.B = string(b)
	default:
		g.B = fmt.Sprint(c.below(20))
	}
	return g
}

// fate is one on its way: what was sent, and by which bits which byte was turned (0: by none).
type fate struct {
	sent     api.Gram
	at, bits int
}

// gram is what it looks like on its way.
func (f fate) gram() api.Gram {
	if f.bits == 0 {
		return f.sent
	}
	g := f.sent
	g.B, g.Turned = turnOne(g.B, f.at, f.bits), true
	return g
}

// run is what is on its way by the promise's words, beside what the calls tell of it.
type run struct {
	fly []fate
	l   []api.Gram
}

// number is mostly one that is there, now and then one beside them or far off.
func (r *run) number(c *chance) int {
	if c.below(5) == 0 || len(r.fly) == 0 {
		l := noNumbers(len(r.fly))
		return l[c.below(len(l))]
	}
	return c.below(len(r.fly))
}

// bits is mostly some that turn something; now and then none, or below 0.
func bits(c *chance) int {
	switch c.below(6) {
	case 0:
		l := leftNumbers()
		return l[c.below(len(l))]
	case 1:
		return c.below(1 << 30)
	}
	return c.below(12)*256 + c.below(256)
}

func (r *run) send(c *chance) (bool, bool) {
	g := c.gram()
	ok := len(r.fly) < api.MaxFly
	if ok {
		r.fly = append(r.fly, fate{sent: g})
	}
	var got bool
	r.l, got = Send(r.l, g)
	return got, ok
}

// goes is number i that comes, or is lost.
func (r *run) goes(t *testing.T, c *chance, comes bool) (bool, bool) {
	i := r.number(c)
	ok := i >= 0 && i < len(r.fly)
	var g, came api.Gram
	if ok {
		g = r.fly[i].gram()
		r.fly = append(r.fly[:i:i], r.fly[i+1:]...)
	}
	var got bool
	if !comes {
		r.l, got = Lost(r.l, i)
		return got, ok
	}
	if r.l, came, got = Comes(r.l, i); came != g {
		t.Fatalf("%+v came, want %+v", came, g)
	}
	return got, ok
}

func (r *run) twice(c *chance) (bool, bool) {
	i := r.number(c)
	ok := i >= 0 && i < len(r.fly) && len(r.fly) < api.MaxFly
	if ok {
		r.fly = append(r.fly, r.fly[i])
	}
	var got bool
	r.l, got = Twice(r.l, i)
	return got, ok
}

func (r *run) turned(c *chance) (bool, bool) {
	i, to := r.number(c), bits(c)
	ok := i >= 0 && i < len(r.fly) && r.fly[i].bits == 0
	if ok && to > 0 && r.fly[i].sent.B != "" {
		r.fly[i].at, r.fly[i].bits = to/256%len(r.fly[i].sent.B), to%256
	}
	var got bool
	r.l, got = Turned(r.l, i, to)
	return got, ok
}

// step is one call by chance; of eight so often a Send as sends says.
func (r *run) step(t *testing.T, c *chance, sends int) (got, ok bool) {
	t.Helper()
	if c.below(8) < sends {
		return r.send(c)
	}
	switch c.below(4) {
	case 0:
		return r.goes(t, c, true)
	case 1:
		return r.goes(t, c, false)
	case 2:
		return r.twice(c)
	}
	return r.turned(c)
}

// apartBy is in how many bytes two texts of one length differ, or -1.
func apartBy(a, b string) int {
	if len(a) != len(b) {
		return -1
	}
	n := 0
	for i := range len(a) {
		if a[i] != b[i] {
			n++
		}
	}
	return n
}

// like tells whether some of these was sent so; if it is Turned, but for just one byte.
func like(g api.Gram, sent []fate) bool {
	for _, f := range sent {
		n := apartBy(g.B, f.sent.B)
		if g.From == f.sent.From && g.To == f.sent.To && (n == 0 && !g.Turned || n == 1 && g.Turned) {
			return true
		}
	}
	return false
}

// TestRuns: calls by chance: all is as the promise's words say; what is not Turned was sent, and what is Turned is one byte apart from something sent.
func TestRuns(t *testing.T) {
	c := chance(23)
	most, turns := 0, 0
	for n := range 600 {
		r := &run{}
		for range 120 {
			got, ok := r.step(t, &c, n%8)
			var wanted []api.Gram
			for _, f := range r.fly {
				wanted = append(wanted, f.gram())
			}
			want(t, fmt.Sprintf("run %d", n), r.l, got, wanted, ok)
			for _, g := range r.l {
				if g.Turned {
					turns++
				}
				if !like(g, r.fly) {
					t.Fatalf("run %d: %+v was not sent", n, g)
				}
			}
			most = max(most, len(r.l))
		}
	}
	if most != api.MaxFly || turns < 1000 {
		t.Errorf("these runs tell little: at most %d, %d turned", most, turns)
	}
}

// TestAllOfIt: as many as may be, each of which comes, from the front, from the back, or from the middle: each once, as it was sent.
func TestAllOfIt(t *testing.T) {
	for what, at := range map[string]func(n int) int{
		"from the front":  func(n int) int { return 0 },
		"from the back":   func(n int) int { return n - 1 },
		"from the middle": func(n int) int { return n / 2 },
	} {
		var l []api.Gram
		for _, g := range grams(api.MaxFly) {
			l, _ = Send(l, g)
		}
		left := grams(api.MaxFly)
		for len(left) > 0 {
			i := at(len(left))
			var g api.Gram
			var ok bool
			if l, g, ok = Comes(l, i); !ok || g != left[i] {
				t.Fatalf("%s: %+v, %v, want %+v", what, g, ok, left[i])
			}
			left = append(left[:i:i], left[i+1:]...)
		}
		want(t, what, l, true, nil, true)
	}
}
