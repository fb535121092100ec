package gput

import (
	"bytes"
	"encoding/binary"
	"slices"
	"strings"
	"testing"

	"cardamom/api"
	"cardamom/pars"
)

// chance tells numbers below n that look like chance and are the same each time.
type chance uint64

func (c *chance) below(n int) int {
	*c = *c*6364136223846793005 + 1442695040888963407
	return int(uint64(*c) >> 33 % uint64(n))
}

func (c *chance) row(n int) []byte {
	b := make([]byte, n)
	for i := range b {
		b[i] = byte(c.below(256))
	}
	return b
}

// small is a number from 0 to most, a small one as likely as a great one.
func (c *chance) small(most int) int { return c.below(most+1) >> c.below(21) }

func (c *chance) stamp() api.Stamp {
	l := max(1, c.small(5000))
	return api.Stamp{L: l, R: 1 + c.below(5), N: 1 + c.below(min(l, 1000))}
}

func (c *chance) filter() string {
	l := []string{"*", "^a", "^abcdef", " @1=5", "!(^q|@3:0-99)", "@0:10-20 & ^z", "(((((*)))))", strings.Repeat(" ", c.below(80)) + "*"}
	return l[c.below(len(l))]
}

func (c *chance) view(r, size int) api.View {
	v := api.View{R: r, Rev: max(1, c.small(1000000)), Filter: c.filter()}
	for item := 1; item <= 6; item++ {
		if c.below(2) == 0 {
			v.Seen = append(v.Seen, api.Head{Item: item, S: c.stamp()})
		}
	}
	for range size {
		v.Epochs = append(v.Epochs, c.small(1000000))
	}
	return v
}

func (c *chance) version(s api.Stamp) api.Version {
	v := api.Version{Item: 1 + c.below(6), S: s, Dead: c.below(4) == 0}
	for key := range 4 {
		if len(v.Attrs) < 3 && c.below(2) == 0 {
			v.Attrs = append(v.Attrs, api.Attr{Key: key, Val: c.below(100)})
		}
	}
	for range c.below(7) {
		v.Tag += string(rune('a' + c.below(26)))
	}
	if !v.Dead {
		v.Body = string(c.row(c.below(13)))
	}
	return v
}

// gossip is any that may be told by one of size replicas, of which there are two or more.
func (c *chance) gossip(size int) api.Gossip {
	g := api.Gossip{From: 1 + c.below(size), To: 1 + c.below(size-1)}
	if g.To >= g.From {
		g.To++
	}
	for r := 1; r <= size; r++ {
		if c.below(3) > 0 {
			g.Views = append(g.Views, c.view(r, size))
		}
	}
	var l []api.Stamp
	for range c.below(5) {
		l = append(l, c.stamp())
	}
	slices.SortFunc(l, modelCompare)
	for _, s := range slices.Compact(l) {
		g.Batch = append(g.Batch, c.version(s))
	}
	return g
}

// modelCompare is P1.1's words: by L, then R, then N.
func modelCompare(a, b api.Stamp) int {
	return slices.Compare([]int{a.L, a.R, a.N}, []int{b.L, b.R, b.N})
}

// within tells whether each number of rows of three, n, least and most, is within its limits.
func within(l ...int) bool {
	for i := 0; i < len(l); i += 3 {
		if l[i] < l[i+1] || l[i] > l[i+2] {
			return false
		}
	}
	return true
}

func modelMayStamp(s api.Stamp) bool {
	return within(s.L, 1, 5000, s.R, 1, 5, s.N, 1, min(1000, s.L))
}

func modelMayVersion(v api.Version) bool {
	for i, a := range v.Attrs {
		if !within(a.Key, 0, 3, a.Val, 0, 99) || i > 0 && a.Key <= v.Attrs[i-1].Key {
			return false
		}
	}
	return within(v.Item, 1, 6, len(v.Attrs), 0, 3, len(v.Tag), 0, 6, len(v.Body), 0, 12) && modelMayStamp(v.S) &&
		strings.Trim(v.Tag, "abcdefghijklmnopqrstuvwxyz") == "" && !(v.Dead && v.Body != "")
}

// modelMayView is P11.1's words, with Rev above 0.
func modelMayView(v api.View, size int) bool {
	for i, h := range v.Seen {
		if !within(h.Item, 1, 6) || !modelMayStamp(h.S) || i > 0 && h.Item <= v.Seen[i-1].Item {
			return false
		}
	}
	for _, n := range v.Epochs {
		if !within(n, 0, 1000000) {
			return false
		}
	}
	_, _, ok := pars.Parse(v.Filter)
	return ok && within(v.R, 1, size, v.Rev, 1, 1000000) && len(v.Epochs) == size
}

// modelMay is P15.1's words.
func modelMay(g api.Gossip, size int) bool {
	for i, v := range g.Views {
		if !modelMayView(v, size) || i > 0 && v.R <= g.Views[i-1].R {
			return false
		}
	}
	for i, v := range g.Batch {
		if !modelMayVersion(v) || i > 0 && modelCompare(g.Batch[i-1].S, v.S) >= 0 {
			return false
		}
	}
	return within(g.From, 1, size, g.To, 1, size, len(g.Batch), 0, 4) && g.From != g.To
}

// part is a piece of what is put: a number, or the bytes of a text behind its length.
type part struct {
	name string
	b    []byte
	text bool
}

type parts []part

func (p *parts) num(name string, n int) {
	*p = append(*p, part{name, binary.AppendUvarint(nil, uint64(n)), false})
}

func (p *parts) str(name, s string) {
	p.num("length of "+name, len(s))
	*p = append(*p, part{name, []byte(s), true})
}

func (p *parts) stamp(s api.Stamp) {
	p.num("stamp's L", s.L)
	p.num("stamp's R", s.R)
	p.num("stamp's N", s.N)
}

func (p *parts) view(v api.View) {
	p.num("view's R", v.R)
	p.num("Rev", v.Rev)
	p.str("Filter", v.Filter)
	p.num("many Seen", len(v.Seen))
	for _, h := range v.Seen {
		p.num("head's Item", h.Item)
		p.stamp(h.S)
	}
	for _, n := range v.Epochs {
		p.num("Epochs", n)
	}
}

func (p *parts) version(v api.Version) {
	p.num("version's Item", v.Item)
	p.stamp(v.S)
	if v.Dead {
		p.num("Dead", 1)
	} else {
		p.num("Dead", 0)
	}
	p.num("many Attrs", len(v.Attrs))
	for _, a := range v.Attrs {
		p.num("Key", a.Key)
		p.num("Val", a.Val)
	}
	p.str("Tag", v.Tag)
	p.str("Body", v.Body)
}

// modelParts is what of g goes ahead of the sum, by the words of P19.1, whether g may be or not.
func modelParts(g api.Gossip) parts {
	var p parts
	p.num("From", g.From)
	p.num("To", g.To)
	p.num("many Views", len(g.Views))
	for _, v := range g.Views {
		p.view(v)
	}
	p.num("many Batch", len(g.Batch))
	for _, v := range g.Batch {
		p.version(v)
	}
	return p
}

// bytes is all of p, each that is named at the places of with taken instead.
func (p parts) bytes(with map[int]string) []byte {
	var b []byte
	for i, x := range p {
		if s, ok := with[i]; ok {
			b = append(b, s...)
		} else {
			b = append(b, x.b...)
		}
	}
	return b
}

// modelSum is a division of the bits, one by one, with sixteen of 0 behind them, the first sixteen turned.
func modelSum(b []byte) uint16 {
	var bits []bool
	for _, x := range append(slices.Clone(b), 0, 0) {
		for i := range 8 {
			bits = append(bits, x>>(7-i)&1 == 1)
		}
	}
	for i := range 16 {
		bits[i] = !bits[i]
	}
	for len(bits) > 16 {
		if bits[0] {
			for _, i := range []int{16 - 12, 16 - 5, 16} {
				bits[i] = !bits[i]
			}
		}
		bits = bits[1:]
	}
	var sum uint16
	for _, is := range bits {
		sum <<= 1
		if is {
			sum++
		}
	}
	return sum
}

// withSum is b and its sum behind it.
func withSum(b []byte) []byte {
	return binary.BigEndian.AppendUint16(slices.Clone(b), modelSum(b))
}

func modelPut(g api.Gossip) []byte { return withSum(modelParts(g).bytes(nil)) }

// modelReader reads numbers in whatever form.
type modelReader struct {
	left []byte
	bad  bool
}

func (r *modelReader) num() int {
	x, k := binary.Uvarint(r.left)
	if k <= 0 || x > 1<<40 {
		r.bad = true
		return 0
	}
	r.left = r.left[k:]
	return int(x)
}

func (r *modelReader) text() string {
	long := r.num()
	if r.bad || long > len(r.left) {
		r.bad = true
		return ""
	}
	s := string(r.left[:long])
	r.left = r.left[long:]
	return s
}

func (r *modelReader) stamp() api.Stamp {
	l := r.num()
	rr := r.num()
	return api.Stamp{L: l, R: rr, N: r.num()}
}

func (r *modelReader) view(size int) api.View {
	v := api.View{R: r.num()}
	v.Rev = r.num()
	v.Filter = r.text()
	for i := r.num(); i > 0 && !r.bad; i-- {
		item := r.num()
		v.Seen = append(v.Seen, api.Head{Item: item, S: r.stamp()})
	}
	for i := size; i > 0 && !r.bad; i-- {
		v.Epochs = append(v.Epochs, r.num())
	}
	return v
}

func (r *modelReader) version() api.Version {
	v := api.Version{Item: r.num()}
	v.S = r.stamp()
	v.Dead = r.num() != 0
	for i := r.num(); i > 0 && !r.bad; i-- {
		key := r.num()
		v.Attrs = append(v.Attrs, api.Attr{Key: key, Val: r.num()})
	}
	v.Tag = r.text()
	v.Body = r.text()
	return v
}

// modelTake is Take by the words of P19.1: what is read in whatever form is held against how it is put.
func modelTake(b []byte, size int) (api.Gossip, bool) {
	r := modelReader{left: b[:max(0, len(b)-2)]}
	g := api.Gossip{From: r.num()}
	g.To = r.num()
	for i := r.num(); i > 0 && !r.bad; i-- {
		g.Views = append(g.Views, r.view(size))
	}
	for i := r.num(); i > 0 && !r.bad; i-- {
		g.Batch = append(g.Batch, r.version())
	}
	if r.bad || !modelMay(g, size) || len(b) > 2000 || !bytes.Equal(modelPut(g), b) {
		return api.Gossip{}, false
	}
	return g, true
}

// alike, alikeView and alikeVersion: a row of none and no row are one.
func alike(a, b api.Gossip) bool {
	return a.From == b.From && a.To == b.To && slices.EqualFunc(a.Views, b.Views, alikeView) && slices.EqualFunc(a.Batch, b.Batch, alikeVersion)
}

func alikeView(a, b api.View) bool {
	return a.R == b.R && a.Rev == b.Rev && a.Filter == b.Filter && slices.Equal(a.Seen, b.Seen) && slices.Equal(a.Epochs, b.Epochs)
}

func alikeVersion(a, b api.Version) bool {
	return a.Item == b.Item && a.S == b.S && a.Dead == b.Dead && slices.Equal(a.Attrs, b.Attrs) && a.Tag == b.Tag && a.Body == b.Body
}

func copyOf(g api.Gossip) api.Gossip {
	g.Views, g.Batch = slices.Clone(g.Views), slices.Clone(g.Batch)
	for i, v := range g.Views {
		g.Views[i].Seen, g.Views[i].Epochs = slices.Clone(v.Seen), slices.Clone(v.Epochs)
	}
	for i, v := range g.Batch {
		g.Batch[i].Attrs = slices.Clone(v.Attrs)
	}
	return g
}

// checkPut: what Put answers is the model's, and it is taken, alike in all.
func checkPut(t *testing.T, what string, g api.Gossip, size int) []byte {
	t.Helper()
	was := copyOf(g)
	want, may := modelPut(g), modelMay(g, size)
	may = may && len(want) <= 2000
	b, ok := Put(g, size)
	if ok != may || ok && !bytes.Equal(b, want) || !ok && b != nil {
		t.Fatalf("%s: Put(%.300v, %d) = %x %v, want %v, %x", what, g, size, b, ok, may, want)
	}
	if !alike(g, was) {
		t.Fatalf("%s: what was handed in is %.300v, was %.300v", what, g, was)
	}
	if checkTake(t, what, want, size) != may {
		t.Fatalf("%s: Take(%x, %d) is not %v", what, want, size, may)
	}
	if got, _ := Take(want, size); may && !alike(got, g) {
		t.Fatalf("%s: %+v is taken as %+v", what, g, got)
	}
	return b
}

// checkTake holds what Take answers against the model, and against Put.
func checkTake(t *testing.T, what string, b []byte, size int) bool {
	t.Helper()
	was := slices.Clone(b)
	g, ok := Take(b, size)
	if want, wantOK := modelTake(b, size); ok != wantOK || !alike(g, want) {
		t.Fatalf("%s: Take(%x, %d) = %+v %v, want %+v %v", what, b, size, g, ok, want, wantOK)
	}
	if !ok && (g.Views != nil || g.Batch != nil) {
		t.Fatalf("%s: Take(%x, %d): %+v beside a no", what, b, size, g)
	}
	if !bytes.Equal(b, was) {
		t.Fatalf("%s: %x is %x", what, was, b)
	}
	if put, is := Put(g, size); ok && (!is || !bytes.Equal(put, b)) {
		t.Fatalf("%s: %x is taken as %+v, which is put as %x", what, b, g, put)
	}
	return ok
}

// checkNone: b tells nothing, and what stands beside the no is the zero value.
func checkNone(t *testing.T, what string, b []byte, size int) {
	t.Helper()
	if g, ok := Take(b, size); ok || !alike(g, api.Gossip{}) {
		t.Fatalf("%s: Take(%x, %d) = %+v %v", what, b, size, g, ok)
	}
	checkTake(t, what, b, size)
}
