package gput

import (
	"bytes"
	"errors"
	"fmt"
	"math"
	"slices"
	"strings"
	"testing"

	"cardamom/api"
	"cardamom/take"
)

func st(l, r, n int) api.Stamp { return api.Stamp{L: l, R: r, N: n} }

func head(item, l, r, n int) api.Head { return api.Head{Item: item, S: st(l, r, n)} }

// text80 is a filter of as many bytes as may be.
const text80 = "^abcdef & @1:10-20 | !(@0=99 & ^zz) | @3:0-99 & !^q                             "

// full is what may be told by one of three, with something in each part.
func full() api.Gossip {
	return api.Gossip{
		From: 2, To: 1,
		Views: []api.View{
			{R: 1, Rev: 300, Filter: "^ab & !@1=5", Seen: []api.Head{head(2, 128, 3, 1), head(5, 5000, 5, 1000)}, Epochs: []int{0, 127, 128}},
			{R: 3, Rev: 1, Filter: "*", Epochs: []int{1000000, 0, 1}},
		},
		Batch: []api.Version{
			{Item: 5, S: st(5, 1, 1), Attrs: []api.Attr{{Key: 0, Val: 7}, {Key: 3, Val: 99}}, Tag: "ab", Body: "\x00\xff"},
			{Item: 1, S: st(300, 2, 200), Dead: true, Tag: "z"},
		},
	}
}

// turn is full with one thing changed.
func turn(change func(g *api.Gossip)) api.Gossip {
	g := full()
	change(&g)
	return g
}

func withView(change func(v *api.View)) api.Gossip {
	return turn(func(g *api.Gossip) { change(&g.Views[0]) })
}

func withVersion(change func(v *api.Version)) api.Gossip {
	return turn(func(g *api.Gossip) { change(&g.Batch[0]) })
}

func plainView(r, size int) api.View {
	return api.View{R: r, Rev: 1, Filter: "*", Epochs: make([]int, size)}
}

// greatest is what is of the most bytes of all that one of size may tell.
func greatest(size int) api.Gossip {
	g := api.Gossip{From: size, To: size - 1}
	for r := 1; r <= size; r++ {
		v := api.View{R: r, Rev: 1000000, Filter: text80}
		for item := 1; item <= 6; item++ {
			v.Seen = append(v.Seen, head(item, 5000, 5, 1000))
		}
		for range size {
			v.Epochs = append(v.Epochs, 1000000)
		}
		g.Views = append(g.Views, v)
	}
	for i := range 4 {
		g.Batch = append(g.Batch, api.Version{
			Item: 6, S: st(4997+i, 5, 1000), Attrs: []api.Attr{{Key: 1, Val: 99}, {Key: 2, Val: 99}, {Key: 3, Val: 99}},
			Tag: "zzzzzz", Body: strings.Repeat("\xff", 12),
		})
	}
	return g
}

// least is what is of the fewest bytes.
func least() api.Gossip { return api.Gossip{From: 1, To: 2} }

// ofLong is what one of 30 may tell, of just so many bytes (from 200 on).
func ofLong(t *testing.T, long int) api.Gossip {
	t.Helper()
	g := api.Gossip{From: 30, To: 1}
	// A view is of 34 bytes and its filter's, all else of six.
	for left := long - 6; left > 0; {
		k := min(80, left-34)
		if rest := left - 34 - k; rest > 0 && rest < 35 {
			k -= 35
		}
		v := plainView(len(g.Views)+1, 30)
		v.Filter = strings.Repeat(" ", k-1) + "*"
		g.Views = append(g.Views, v)
		left -= 34 + k
	}
	if got := len(modelPut(g)); got != long || !modelMay(g, 30) {
		t.Fatalf("%d bytes for %d", got, long)
	}
	return g
}

func TestModelSum(t *testing.T) {
	if got := modelSum([]byte("123456789")); got != 0x29B1 {
		t.Errorf("%x", got)
	}
	if got := modelSum(nil); got != 0xFFFF {
		t.Errorf("%x", got)
	}
}

func TestExample(t *testing.T) {
	b, ok := Put(full(), 3)
	if !ok {
		t.Fatal("full may not be")
	}
	if g, ok := Take(b, 3); !ok || !alike(g, full()) {
		t.Errorf("%+v %v", g, ok)
	}
}

func TestKnownBytes(t *testing.T) {
	for _, x := range []struct {
		g    api.Gossip
		want string
	}{
		{least(), "\x01\x02\x00\x00\x9c\x14"},
		{full(), "\x02\x01\x02" +
			"\x01\xac\x02\x0b^ab & !@1=5\x02\x02\x80\x01\x03\x01\x05\x88\x27\x05\xe8\x07\x00\x7f\x80\x01" +
			"\x03\x01\x01*\x00\xc0\x84\x3d\x00\x01" +
			"\x02" +
			"\x05\x05\x01\x01\x00\x02\x00\x07\x03\x63\x02ab\x02\x00\xff" +
			"\x01\xac\x02\x02\xc8\x01\x01\x00\x01z\x00" +
			"\x0a\x5f"},
	} {
		b, ok := Put(x.g, 3)
		if !ok || string(b) != x.want {
			t.Errorf("Put(%+v) = %q %v, want %q", x.g, b, ok, x.want)
		}
		if g, ok := Take([]byte(x.want), 3); !ok || !alike(g, x.g) {
			t.Errorf("Take(%q) = %+v %v", x.want, g, ok)
		}
	}
}

// edges is what may be told by one of three, each number of it at its least and its greatest, each row without one and with as many as may be.
func edges() map[string]api.Gossip {
	m := map[string]api.Gossip{
		"full": full(), "the least": least(), "the greatest": greatest(3),
		"1 to 3":         turn(func(g *api.Gossip) { g.From, g.To = 1, 3 }),
		"3 to 1":         turn(func(g *api.Gossip) { g.From, g.To = 3, 1 }),
		"no Views":       turn(func(g *api.Gossip) { g.Views = nil }),
		"no Batch":       turn(func(g *api.Gossip) { g.Batch = nil }),
		"three Views":    turn(func(g *api.Gossip) { g.Views = []api.View{plainView(1, 3), plainView(2, 3), plainView(3, 3)} }),
		"a view of 3":    turn(func(g *api.Gossip) { g.Views = []api.View{plainView(3, 3)} }),
		"nothing Seen":   withView(func(v *api.View) { v.Seen = nil }),
		"as much Seen":   withView(func(v *api.View) { v.Seen = greatest(3).Views[0].Seen }),
		"Epochs 0":       withView(func(v *api.View) { v.Epochs = []int{0, 0, 0} }),
		"Epochs 1000000": withView(func(v *api.View) { v.Epochs = []int{1000000, 1000000, 1000000} }),
		"Rev 1":          withView(func(v *api.View) { v.Rev = 1 }),
		"Rev 1000000":    withView(func(v *api.View) { v.Rev = 1000000 }),
		"1 byte":         withView(func(v *api.View) { v.Filter = "*" }),
		"80 bytes":       withView(func(v *api.View) { v.Filter = text80 }),
		"80 bytes, 1 *":  withView(func(v *api.View) { v.Filter = strings.Repeat(" ", 79) + "*" }),
		"a stamp 1":      withView(func(v *api.View) { v.Seen[0].S = st(1, 1, 1) }),
		"a bare version": withVersion(func(v *api.Version) { *v = api.Version{Item: 1, S: st(1, 1, 1)} }),
		"one thing": turn(func(g *api.Gossip) {
			for n := range 4 {
				g.Batch = append(g.Batch[:n:n], api.Version{Item: 2, S: st(7+n/2, 1+n%2, 1)})
			}
		}),
		"one time": turn(func(g *api.Gossip) {
			g.Batch = []api.Version{{Item: 6, S: st(9, 1, 3)}, {Item: 3, S: st(9, 1, 4)}, {Item: 2, S: st(9, 5, 1)}}
		}),
	}
	for n := range 5 {
		m[fmt.Sprint("a Batch of ", n)] = turn(func(g *api.Gossip) { g.Batch = greatest(3).Batch[:n] })
	}
	for n := range 7 {
		m[fmt.Sprint("Seen of ", n)] = withView(func(v *api.View) { v.Seen = greatest(3).Views[0].Seen[:n] })
	}
	return m
}

func TestEdges(t *testing.T) {
	if len(text80) != 80 {
		t.Fatalf("%d bytes", len(text80))
	}
	for what, g := range edges() {
		if !modelMay(g, 3) {
			t.Fatalf("%s: the model is wrong", what)
		}
		checkPut(t, what, g, 3)
	}
}

// TestEachSize: from the least size, of which none can tell anything, to more than there are.
func TestEachSize(t *testing.T) {
	for size := -2; size <= 9; size++ {
		for from := -2; from <= 10; from++ {
			for to := -2; to <= 10; to++ {
				checkPut(t, "no Views", api.Gossip{From: from, To: to}, size)
				checkPut(t, "a view", api.Gossip{From: from, To: to, Views: []api.View{plainView(1, max(0, size))}}, size)
			}
		}
		if size < 2 {
			continue
		}
		checkPut(t, "the greatest", greatest(size), size)
		for many := range size + 1 {
			g := greatest(size)
			g.Views = g.Views[:many]
			checkPut(t, "its first views", g, size)
			g.Views = greatest(size).Views[size-many:]
			checkPut(t, "its last views", g, size)
		}
	}
}

// TestGreatestHasRoom: what is of the most bytes of all within the limits is told.
func TestGreatestHasRoom(t *testing.T) {
	b, ok := Put(greatest(5), 5)
	if !ok || len(b) != len(modelPut(greatest(5))) || len(b) > api.MaxFrame || len(b) < 800 {
		t.Errorf("%d bytes, %v", len(b), ok)
	}
	if g, ok := Take(b, 5); !ok || !alike(g, greatest(5)) {
		t.Errorf("%+v %v", g, ok)
	}
}

// TestLongerThanAFrame: there are so many replicas that it may be told, but for its length.
func TestLongerThanAFrame(t *testing.T) {
	for long := 1990; long <= 2010; long++ {
		g := ofLong(t, long)
		b, ok := Put(g, 30)
		if ok != (long <= 2000) || ok && len(b) != long || !ok && b != nil {
			t.Errorf("%d bytes: %d, %v", long, len(b), ok)
		}
		got, ok := Take(modelPut(g), 30)
		if ok != (long <= 2000) || ok && !alike(got, g) || !ok && !alike(got, api.Gossip{}) {
			t.Errorf("%d bytes: %+v %v", long, got, ok)
		}
		checkPut(t, "so long", g, 30)
	}
	for _, size := range []int{14, 15, 16, 17, 40, 200, 2000} {
		checkPut(t, "the greatest", greatest(size), size)
	}
	checkNone(t, "noughts", make([]byte, 1<<20), 5)
}

// mayNot is what one of three may not tell, each for one reason of P15.1.
func mayNot() map[string]api.Gossip {
	m := map[string]api.Gossip{
		"none":             {},
		"to itself":        turn(func(g *api.Gossip) { g.To = g.From }),
		"Rev 0":            turn(func(g *api.Gossip) { g.Views[0] = api.View{R: 1} }),
		"Rev 0, last":      turn(func(g *api.Gossip) { g.Views[1] = api.View{R: 3} }),
		"Rev 0 alone":      withView(func(v *api.View) { v.Rev = 0 }),
		"R alike":          turn(func(g *api.Gossip) { g.Views[1].R = 1 }),
		"R falling":        turn(func(g *api.Gossip) { slices.Reverse(g.Views) }),
		"R falling, third": turn(func(g *api.Gossip) { g.Views = append(g.Views, plainView(2, 3)) }),
		"four Views":       turn(func(g *api.Gossip) { g.Views = append(g.Views, plainView(4, 3)) }),
		"no Filter":        withView(func(v *api.View) { v.Filter = "" }),
		"a bad Filter":     withView(func(v *api.View) { v.Filter = "^ab &" }),
		"81 bytes":         withView(func(v *api.View) { v.Filter = text80 + " " }),
		"far too long":     withView(func(v *api.View) { v.Filter = strings.Repeat(" ", 1<<16) + "*" }),
		"too many words":   withView(func(v *api.View) { v.Filter = strings.Repeat("!", 60) + "*" }),
		"Seen alike":       withView(func(v *api.View) { v.Seen[1].Item = 2 }),
		"Seen falling":     withView(func(v *api.View) { slices.Reverse(v.Seen) }),
		"seven Seen":       withView(func(v *api.View) { v.Seen = append(greatest(3).Views[0].Seen, head(7, 1, 1, 1)) }),
		"six and one":      withView(func(v *api.View) { v.Seen = append(greatest(3).Views[0].Seen, head(6, 5000, 5, 1000)) }),
		"far too much":     withView(func(v *api.View) { v.Seen = make([]api.Head, 3000) }),
		"a head of N":      withView(func(v *api.View) { v.Seen[0].S = st(5, 1, 6) }),
		"no Epochs":        withView(func(v *api.View) { v.Epochs = nil }),
		"two Epochs":       withView(func(v *api.View) { v.Epochs = v.Epochs[:2] }),
		"four Epochs":      withView(func(v *api.View) { v.Epochs = append(v.Epochs, 0) }),
		"far more Epochs":  withView(func(v *api.View) { v.Epochs = make([]int, 3000) }),
		"five of Batch": turn(func(g *api.Gossip) {
			g.Batch = append([]api.Version{{Item: 1, S: st(1, 1, 1)}}, greatest(3).Batch...)
		}),
		"far more of Batch": turn(func(g *api.Gossip) {
			for n := range 900 {
				g.Batch = append(g.Batch, api.Version{Item: 1, S: st(1000+n, 1, 1+n)})
			}
		}),
		"stamps alike":        turn(func(g *api.Gossip) { g.Batch[1].S = g.Batch[0].S }),
		"stamps falling":      turn(func(g *api.Gossip) { slices.Reverse(g.Batch) }),
		"stamps falling by R": turn(func(g *api.Gossip) { g.Batch[0].S, g.Batch[1].S = st(5, 2, 1), st(5, 1, 1) }),
		"stamps falling by N": turn(func(g *api.Gossip) { g.Batch[0].S, g.Batch[1].S = st(5, 2, 2), st(5, 2, 1) }),
		"stamps falling third": turn(func(g *api.Gossip) {
			g.Batch = append(greatest(3).Batch, api.Version{Item: 1, S: st(4999, 1, 1)})[1:]
		}),
		"a bare version of N": withVersion(func(v *api.Version) { v.S = st(2, 1, 3) }),
		"Dead with a Body":    withVersion(func(v *api.Version) { v.Dead = true }),
		"Keys alike":          withVersion(func(v *api.Version) { v.Attrs[1].Key = 0 }),
		"Keys falling":        withVersion(func(v *api.Version) { slices.Reverse(v.Attrs) }),
		"four Attrs":          withVersion(func(v *api.Version) { v.Attrs = []api.Attr{{Key: 0}, {Key: 1}, {Key: 2}, {Key: 3}} }),
		"far more Attrs":      withVersion(func(v *api.Version) { v.Attrs = make([]api.Attr, 3000) }),
		"a Tag of 7":          withVersion(func(v *api.Version) { v.Tag = "aaaaaaa" }),
		"a Tag of 3000":       withVersion(func(v *api.Version) { v.Tag = strings.Repeat("a", 3000) }),
		"a Tag A":             withVersion(func(v *api.Version) { v.Tag = "A" }),
		"a Body of 13":        withVersion(func(v *api.Version) { v.Body = "thirteen byte" }),
		"a Body of 3000":      withVersion(func(v *api.Version) { v.Body = strings.Repeat("x", 3000) }),
		"a last bare version": turn(func(g *api.Gossip) { g.Batch[1] = api.Version{} }),
	}
	for _, n := range []int{0, 4, 5, 6, 7, 128, 257, -1, -2, -128, 1<<32 + 1, 1<<32 + 3, 1 << 35, 1<<35 + 1, math.MaxInt, math.MinInt} {
		m[fmt.Sprint("From ", n)] = turn(func(g *api.Gossip) { g.From = n })
		m[fmt.Sprint("To ", n)] = turn(func(g *api.Gossip) { g.To = n })
		m[fmt.Sprint("a last view's R ", n)] = turn(func(g *api.Gossip) { g.Views[1].R = n })
	}
	for _, n := range []int{-1, -1 << 40, 1000001, 1 << 20, 1<<32 + 1, math.MaxInt, math.MinInt} {
		m[fmt.Sprint("Rev ", n)] = withView(func(v *api.View) { v.Rev = n })
		for i := range 3 {
			m[fmt.Sprint("Epochs ", i, n)] = withView(func(v *api.View) { v.Epochs[i] = n })
		}
	}
	for _, n := range []int{0, -1, -1 << 40, 5001, 1<<32 + 1, math.MaxInt, math.MinInt} {
		m[fmt.Sprint("a head's Item ", n)] = withView(func(v *api.View) { v.Seen[0].Item = n })
		m[fmt.Sprint("a last head's Item ", n)] = withView(func(v *api.View) { v.Seen[1].Item = n })
		m[fmt.Sprint("a view's R ", n)] = withView(func(v *api.View) { v.R = n })
		m[fmt.Sprint("a version's Item ", n)] = withVersion(func(v *api.Version) { v.Item = n })
		for i := range 3 {
			l := []int{5000, 1, 1}
			l[i] = n
			m[fmt.Sprint("a head's stamp ", l)] = withView(func(v *api.View) { v.Seen[0].S = st(l[0], l[1], l[2]) })
			m[fmt.Sprint("a version's stamp ", l)] = turn(func(g *api.Gossip) { g.Batch[1].S = st(l[0], l[1], l[2]) })
		}
	}
	for _, n := range []int{-1, 100, 1<<32 + 1, math.MaxInt, math.MinInt} {
		m[fmt.Sprint("a Key ", n)] = withVersion(func(v *api.Version) { v.Attrs[1].Key = n })
		m[fmt.Sprint("a Val ", n)] = withVersion(func(v *api.Version) { v.Attrs[1].Val = n })
	}
	m["a Key 4"] = withVersion(func(v *api.Version) { v.Attrs[1].Key = 4 })
	m["an Item 7"] = withVersion(func(v *api.Version) { v.Item = 7 })
	m["a stamp's R 6"] = withVersion(func(v *api.Version) { v.S.R = 6 })
	m["a stamp's N 1001"] = turn(func(g *api.Gossip) { g.Batch[1].S = st(5000, 1, 1001) })
	m["a head's Item 7"] = withView(func(v *api.View) { v.Seen[1].Item = 7 })
	m["a head's R 6"] = withView(func(v *api.View) { v.Seen[1].S.R = 6 })
	m["a head's N 1001"] = withView(func(v *api.View) { v.Seen[1].S.N = 1001 })
	return m
}

// TestMayNot: no, and no bytes; and what would be its bytes, the sum being right, tells nothing.
func TestMayNot(t *testing.T) {
	for what, g := range mayNot() {
		if modelMay(g, 3) || take.May(g, 3) {
			t.Fatalf("%s: the model is wrong", what)
		}
		if b, ok := Put(g, 3); ok || b != nil {
			t.Errorf("%s: %x %v", what, b, ok)
		}
		checkPut(t, what, g, 3)
	}
	for _, size := range []int{2, 1, 0, -1, 4, 5, 6, 128, 1 << 40, math.MaxInt, math.MinInt, math.MinInt + 1} {
		if b, ok := Put(full(), size); ok || b != nil {
			t.Errorf("one of %d: %x %v", size, b, ok)
		}
		checkNone(t, "at another size", modelPut(full()), size)
	}
}

// TestAtAnotherSize: what one of so many has told, taken as if there were others.
func TestAtAnotherSize(t *testing.T) {
	c := chance(7)
	for size := 2; size <= 6; size++ {
		for range 30 {
			g := c.gossip(size)
			b := modelPut(g)
			for other := -2; other <= 30; other++ {
				// With Views the other number of Epochs makes it another row of parts, which by chance may be one too.
				may := other == size || len(g.Views) == 0 && other >= max(g.From, g.To)
				if got, ok := Take(b, other); may && !ok || ok && may != alike(got, g) {
					t.Fatalf("%+v, one of %d, at %d: %+v %v", g, size, other, got, ok)
				}
				checkTake(t, "at another size", b, other)
			}
			for _, other := range []int{2000, 1 << 20, 1 << 40, math.MaxInt, math.MinInt} {
				checkTake(t, "at another size", b, other)
			}
		}
	}
}

func TestGossipByChance(t *testing.T) {
	c := chance(19)
	for range 3000 {
		size := 2 + c.below(4)
		g := c.gossip(size)
		if !modelMay(g, size) {
			t.Fatalf("the model is wrong: %+v", g)
		}
		b := checkPut(t, "by chance", g, size)
		if !bytes.Equal(b, modelPut(g)) {
			t.Fatalf("%+v: %x", g, b)
		}
	}
}

func TestWhyIsWrapped(t *testing.T) {
	for s, want := range map[string]string{
		"":                               "From: ",
		"\x80\x00":                       "From: ",
		"\x01":                           "To: ",
		"\x01\x02":                       "Views: ",
		"\x01\x02\x01":                   "Views: ",
		"\x01\x02\x03\x00\x00":           "Views: ",
		"\x01\x02\x01\x80":               "R: ",
		"\x01\x02\x01\x01":               "Rev: ",
		"\x01\x02\x01\x01\x01":           "Filter: ",
		"\x01\x02\x01\x01\x01\x02*":      "Filter: ",
		"\x01\x02\x01\x01\x01\x01*":      "Seen: ",
		"\x01\x02\x01\x01\x01\x01*\x01":  "Seen: ",
		"\x01\x02\x01\x01\x01\x01*\x00":  "Epochs: ",
		"\x01\x02\x01\x01\x01\x01*\x000": "Epochs: ",
		"\x01\x02\x00":                   "Batch: ",
		"\x01\x02\x00\x01":               "Batch: ",
		"\x01\x02\x00\x01\x01":           "Batch: ",
		"\x01\x02\x00\x00\x00":           "what is behind all of it: ",
	} {
		_, err := gossip(withSum([]byte(s)), 2)
		var in inPart
		if !errors.Is(err, errNone) || !errors.As(err, &in) || !strings.HasPrefix(err.Error(), want) {
			t.Errorf("%x: %v, want %s", s, err, want)
		}
	}
	for s, want := range map[string]string{"": "the length", "\x01": "the length", "\x01\x02": "the sum", "\x01\x02\x00\x00\x9c\x15": "the sum"} {
		if _, err := gossip([]byte(s), 2); !errors.Is(err, errNone) || !strings.HasPrefix(err.Error(), want) {
			t.Errorf("%x: %v, want %s", s, err, want)
		}
	}
	if _, err := gossip(withSum([]byte("\x01\x03\x00\x00")), 2); !errors.Is(err, errMayNot) || errors.Is(err, errNone) {
		t.Error(err)
	}
	for _, g := range []api.Gossip{{}, greatest(30)} {
		if _, err := frame(g, 30); !errors.Is(err, errMayNot) || errors.Is(err, errNone) {
			t.Error(err)
		}
	}
	b, err := frame(full(), 3)
	if err != nil {
		t.Error(err)
	}
	if _, err := gossip(b, 3); err != nil {
		t.Error(err)
	}
}
