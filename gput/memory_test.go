package gput

import (
	"bytes"
	"math"
	"slices"
	"strings"
	"sync"
	"testing"
	"unsafe"

	"cardamom/api"
)

// overwrite turns each byte of b, its spare room too.
func overwrite(b []byte) {
	b = b[:cap(b)]
	for i := range b {
		b[i] ^= 0xFF
	}
}

// spoil writes over all that g's rows have, their spare room too.
func spoil(g api.Gossip) {
	for _, v := range g.Views[:cap(g.Views)] {
		seen, epochs := v.Seen[:cap(v.Seen)], v.Epochs[:cap(v.Epochs)]
		for i := range seen {
			seen[i] = head(77, 77, 77, 77)
		}
		for i := range epochs {
			epochs[i] = 77
		}
	}
	for _, v := range g.Batch[:cap(g.Batch)] {
		attrs := v.Attrs[:cap(v.Attrs)]
		for i := range attrs {
			attrs[i] = api.Attr{Key: 77, Val: 77}
		}
	}
	clear(g.Views[:cap(g.Views)])
	clear(g.Batch[:cap(g.Batch)])
}

// roomy is g with spare room behind each of its rows, filled with something.
func roomy(g api.Gossip) api.Gossip {
	g = copyOf(g)
	for i, v := range g.Views {
		g.Views[i].Seen = append(v.Seen, head(9, 9, 9, 9), head(8, 8, 8, 8))[:len(v.Seen)]
		g.Views[i].Epochs = append(v.Epochs, 9, 8)[:len(v.Epochs)]
	}
	for i, v := range g.Batch {
		g.Batch[i].Attrs = append(v.Attrs, api.Attr{Key: 9, Val: 9}, api.Attr{Key: 8, Val: 8})[:len(v.Attrs)]
	}
	g.Views = append(g.Views, plainView(9, 9), plainView(8, 8))[:len(g.Views)]
	g.Batch = append(g.Batch, api.Version{Item: 9}, api.Version{Item: 8})[:len(g.Batch)]
	return g
}

// wide is g with its spare room as a part of it.
func wide(g api.Gossip) api.Gossip {
	g.Views, g.Batch = slices.Clone(g.Views[:cap(g.Views)]), slices.Clone(g.Batch[:cap(g.Batch)])
	for i, v := range g.Views {
		g.Views[i].Seen, g.Views[i].Epochs = v.Seen[:cap(v.Seen)], v.Epochs[:cap(v.Epochs)]
	}
	for i, v := range g.Batch {
		g.Batch[i].Attrs = v.Attrs[:cap(v.Attrs)]
	}
	return copyOf(g)
}

// TestPutLeavesAll: what is handed in is as it was, its spare room too, and what is told hangs on it no more.
func TestPutLeavesAll(t *testing.T) {
	check := func(what string, g api.Gossip, size int) {
		g = roomy(g)
		was := wide(g)
		b, ok := Put(g, size)
		told := slices.Clone(b)
		if !alike(wide(g), was) {
			t.Fatalf("%s: what was handed in is changed", what)
		}
		other, _ := Put(g, size)
		overwrite(other)
		if !alike(wide(g), was) || !bytes.Equal(b, told) {
			t.Fatalf("%s: what was told twice is in one place", what)
		}
		spoil(g)
		if !bytes.Equal(b, told) {
			t.Fatalf("%s: %x is %x, %v", what, told, b, ok)
		}
	}
	for what, g := range edges() {
		check(what, g, 3)
	}
	for what, g := range mayNot() {
		check(what, g, 3)
	}
	check("too long", greatest(20), 20)
}

// TestTakeLeavesAll: the bytes that are handed in are as they were, their spare room too.
func TestTakeLeavesAll(t *testing.T) {
	for _, g := range edges() {
		for _, cut := range []int{0, 1, 2, 5} {
			for _, spare := range []int{0, 1, 2, 3, 100} {
				all := append(modelPut(g), strings.Repeat("spare", 20)...)
				was := slices.Clone(all)
				n := max(0, len(all)-100-cut)
				Take(all[:n:n+spare], 3)
				if !bytes.Equal(all, was) {
					t.Fatalf("%x is %x", was, all)
				}
			}
		}
	}
}

// places is where the texts of g lie; Go has each text of one byte once.
func places(g api.Gossip) []*byte {
	var l []*byte
	for _, v := range g.Views {
		if len(v.Filter) > 1 {
			l = append(l, unsafe.StringData(v.Filter))
		}
	}
	for _, v := range g.Batch {
		for _, s := range []string{v.Tag, v.Body} {
			if len(s) > 1 {
				l = append(l, unsafe.StringData(s))
			}
		}
	}
	return l
}

// TestTakenIsNewMemory: nothing of what is taken lies in b, in what was taken ahead, or in another part of it.
func TestTakenIsNewMemory(t *testing.T) {
	for what, g := range edges() {
		b := modelPut(g)
		first, _ := Take(b, 3)
		second, _ := Take(b, 3)
		all := append(places(first), places(second)...)
		for i, p := range all {
			if slices.Contains(all[:i], p) {
				t.Fatalf("%s: a text is told twice in one place", what)
			}
		}
		overwrite(b)
		spoil(second)
		if !alike(first, g) {
			t.Fatalf("%s: %+v, want %+v", what, first, g)
		}
		for i := range first.Views {
			grown := copyOf(first)
			_ = append(first.Views[i].Seen, head(77, 77, 77, 77))
			_ = append(first.Views[i].Epochs, 77)
			if !alike(first, grown) {
				t.Fatalf("%s: two rows of one answer share memory", what)
			}
		}
	}
}

func TestNilAndEmpty(t *testing.T) {
	for what, g := range edges() {
		empty := copyOf(g)
		if len(g.Views) == 0 {
			g.Views, empty.Views = nil, []api.View{}
		}
		if len(g.Batch) == 0 {
			g.Batch, empty.Batch = nil, make([]api.Version, 3)[:0]
		}
		for i, v := range g.Views {
			if len(v.Seen) == 0 {
				g.Views[i].Seen, empty.Views[i].Seen = nil, []api.Head{}
			}
		}
		for i, v := range g.Batch {
			if len(v.Attrs) == 0 {
				g.Batch[i].Attrs, empty.Batch[i].Attrs = nil, make([]api.Attr, 2)[:0]
			}
		}
		a, aOK := Put(g, 3)
		b, bOK := Put(empty, 3)
		if !bytes.Equal(a, b) || !aOK || !bOK {
			t.Errorf("%s: %x, of empty rows %x", what, a, b)
		}
	}
	for _, size := range []int{0, -1} {
		g := api.Gossip{From: 1, To: 2, Views: []api.View{{R: 1, Rev: 1, Filter: "*", Epochs: []int{}}}}
		checkPut(t, "of none", g, size)
		checkNone(t, "none", []byte{}, size)
	}
}

// wrong is what is wrong in many ways at once.
func wrong() []api.Gossip {
	l := []api.Gossip{
		{From: math.MinInt, To: math.MaxInt, Views: make([]api.View, 50), Batch: make([]api.Version, 50)},
		{From: -1, To: -1, Views: []api.View{{R: -5, Rev: -5, Filter: "\xff", Seen: make([]api.Head, 9), Epochs: []int{-1}}}},
		{From: 1, To: 2, Batch: []api.Version{{Item: -1, S: st(-1, -1, -1), Attrs: make([]api.Attr, 9), Tag: "\x00", Body: strings.Repeat("x", 99)}}},
	}
	for _, g := range mayNot() {
		l = append(l, g)
	}
	return l
}

func TestWhateverItIs(t *testing.T) {
	sizes := []int{math.MinInt, math.MinInt + 1, -1 << 40, -1, 0, 1, 2, 3, 5, 6, 2000, 1 << 16, 1 << 31, 1 << 35, 1 << 40, math.MaxInt - 1, math.MaxInt}
	c := chance(31)
	for _, size := range sizes {
		for _, g := range append(wrong(), full(), least(), greatest(5)) {
			was := copyOf(g)
			b, ok := Put(g, size)
			if !alike(g, was) || !ok && b != nil {
				t.Fatalf("Put(%+v, %d): %x %v", g, size, b, ok)
			}
		}
		for _, b := range [][]byte{nil, modelPut(full()), modelPut(least()), modelPut(greatest(5)), c.row(30), withSum(c.row(30)), withSum(make([]byte, 1998)), withSum(bytes.Repeat([]byte{1}, 1998)), withSum(bytes.Repeat([]byte{0xFF}, 1998)), withSum(bytes.Repeat([]byte{0x7F}, 1998)), make([]byte, 1<<22)} {
			checkTake(t, "whatever it is", b, size)
		}
	}
}

func TestSameEachTime(t *testing.T) {
	c := chance(5)
	gs := append(wrong()[:9], full(), least(), greatest(3), c.gossip(3), c.gossip(3), c.gossip(5))
	var all sync.WaitGroup
	for range 8 {
		all.Go(func() {
			for range 10 {
				checkSame(t, gs)
			}
		})
	}
	all.Wait()
}

func checkSame(t *testing.T, gs []api.Gossip) {
	for _, g := range gs {
		b, ok := Put(g, 3)
		if may := modelMay(g, 3); ok != may || ok && !bytes.Equal(b, modelPut(g)) {
			t.Errorf("Put(%+v) = %x %v", g, b, ok)
		}
		got, is := Take(modelPut(g), 3)
		if is != ok || ok && !alike(got, g) || !ok && !alike(got, api.Gossip{}) {
			t.Errorf("Take of %+v: %+v %v", g, got, is)
		}
	}
}
