package gput

import (
	"encoding/binary"
	"math"
	"slices"
	"strings"
	"testing"

	"cardamom/api"
)

// some is what is turned and cut in each way.
func some() []api.Gossip {
	return []api.Gossip{
		least(), full(),
		{From: 3, To: 2, Batch: []api.Version{{Item: 1, S: st(1, 1, 1)}}},
		{From: 1, To: 3, Views: []api.View{plainView(2, 3)}},
	}
}

// TestCutOff: the bytes of what is told cut off at each place, as they are and with a sum of their own.
func TestCutOff(t *testing.T) {
	for _, g := range append(some(), greatest(3)) {
		b := modelPut(g)
		for n := range b {
			checkNone(t, "cut off", b[:n:n], 3)
			// The rest stands in the spare room, where none looks.
			checkNone(t, "cut off", b[:n], 3)
		}
		for n := range b[:len(b)-2] {
			checkNone(t, "cut off, with a sum", withSum(b[:n]), 3)
		}
		for n := 1; n <= len(b); n++ {
			checkNone(t, "cut off ahead", b[n:], 3)
		}
	}
	for _, b := range [][]byte{nil, {}, modelPut(full())[:0], {0}, {255}, {255, 255}, {0, 0}} {
		checkNone(t, "almost none", b, 3)
	}
}

// TestMoreBehind: bytes behind what is told, behind the sum and ahead of it.
func TestMoreBehind(t *testing.T) {
	for _, g := range some() {
		b := modelPut(g)
		parts := b[:len(b)-2]
		rows := []string{"\x00", "\x01", "\x80", "\xff", "\x00\x00", "more", string(b), string(parts), string(b[len(b)-2:]), strings.Repeat("\x00", 3000), "\x01\x01\x01\x01\x00\x00\x00\x00"}
		for x := range 256 {
			rows = append(rows, string([]byte{byte(x)}))
		}
		for _, s := range rows {
			more := []byte(s)
			checkNone(t, "more behind the sum", slices.Concat(b, more), 3)
			checkNone(t, "more, and a sum", withSum(slices.Concat(b, more)), 3)
			checkNone(t, "more ahead of the sum", slices.Concat(parts, more, b[len(b)-2:]), 3)
			checkNone(t, "more ahead of its sum", withSum(slices.Concat(parts, more)), 3)
			checkNone(t, "more ahead of all", slices.Concat(more, b), 3)
		}
	}
}

// TestEachSum: each of all sums but the one that it has.
func TestEachSum(t *testing.T) {
	for _, g := range some() {
		b := modelPut(g)
		parts := b[:len(b)-2]
		right := 0
		for sum := range 1 << 16 {
			c := binary.BigEndian.AppendUint16(slices.Clone(parts), uint16(sum))
			got, ok := Take(c, 3)
			if ok && alike(got, g) && uint16(sum) == modelSum(parts) {
				right++
			} else if ok || !alike(got, api.Gossip{}) {
				t.Fatalf("%x: %+v %v", c, got, ok)
			}
		}
		if right != 1 {
			t.Errorf("%x: %d sums", b, right)
		}
		checkNone(t, "the sum the other way round", binary.LittleEndian.AppendUint16(slices.Clone(parts), modelSum(parts)), 3)
	}
}

// TestTurned: one byte, and two side by side, turned in each way.
func TestTurned(t *testing.T) {
	for _, g := range some() {
		b := modelPut(g)
		for i := range b {
			for x := 1; x < 256; x++ {
				c := slices.Clone(b)
				c[i] ^= byte(x)
				checkNone(t, "turned", c, 3)
			}
		}
	}
	for _, g := range []api.Gossip{least(), some()[2], some()[3]} {
		b := modelPut(g)
		for i := range b[1:] {
			c := slices.Clone(b)
			for x := 1; x < 1<<16; x++ {
				c[i], c[i+1] = b[i]^byte(x>>8), b[i+1]^byte(x)
				if got, ok := Take(c, 3); ok || !alike(got, api.Gossip{}) {
					t.Fatalf("%x is taken of %x: %+v", c, b, got)
				}
			}
		}
	}
}

// TestTwoTurnedByChance: two side by side in longer rows.
func TestTwoTurnedByChance(t *testing.T) {
	c := chance(11)
	for _, g := range []api.Gossip{full(), greatest(3), greatest(5), c.gossip(5), c.gossip(4)} {
		size := 3
		if !modelMay(g, 3) {
			size = 5
		}
		if !modelMay(g, size) {
			size = 4
		}
		b := modelPut(g)
		if _, ok := Take(b, size); !ok {
			t.Fatalf("%x tells nothing", b)
		}
		for i := range b[1:] {
			for range 100 {
				x := 1 + c.below(1<<16-1)
				d := slices.Clone(b)
				d[i] ^= byte(x >> 8)
				d[i+1] ^= byte(x)
				if got, ok := Take(d, size); ok || !alike(got, api.Gossip{}) {
					t.Fatalf("%x is taken of %x: %+v", d, b, got)
				}
			}
		}
	}
}

// TestTurnedWithASum: each byte ahead of the sum turned into each other one, taken away, or with one more ahead of it, the sum being right.
func TestTurnedWithASum(t *testing.T) {
	for _, g := range some() {
		parts := modelParts(g).bytes(nil)
		for i := range parts {
			for x := range 256 {
				b := slices.Clone(parts)
				b[i] = byte(x)
				checkTake(t, "turned, with a sum", withSum(b), 3)
			}
			checkTake(t, "one away", withSum(slices.Delete(slices.Clone(parts), i, i+1)), 3)
			for _, x := range []byte{0, 1, 2, 0x7F, 0x80, 0xFF} {
				checkTake(t, "one more", withSum(slices.Insert(slices.Clone(parts), i, x)), 3)
			}
		}
	}
}

// TestOtherForms: a number that is none, or not in its one form, at each place of a number, the sum being right.
func TestOtherForms(t *testing.T) {
	for _, g := range []api.Gossip{full(), greatest(3)} {
		p := modelParts(g)
		for i, x := range p {
			if x.text {
				continue
			}
			long := slices.Clone(x.b)
			for len(long) < 9 {
				long[len(long)-1] |= 0x80
				long = append(long, 0)
				checkNone(t, x.name, withSum(p.bytes(map[int]string{i: string(long)})), 3)
			}
			for _, none := range []string{"", "\x80", "\x80\x80\x80\x80\x80", "\xff\xff\xff\xff\xff\x01", "\x80\x80\x80\x80\x80\x80\x80\x80\x80\x01", "\x80\x00", "\x81\x80\x80\x00"} {
				checkNone(t, x.name, withSum(append(p[:i].bytes(nil), none...)), 3)
				checkTake(t, x.name, withSum(p.bytes(map[int]string{i: none})), 3)
			}
		}
	}
}

// TestEachNumber: at each place of a number each of up to 300, and those far beyond it, the sum being right.
func TestEachNumber(t *testing.T) {
	far := []int{999, 1000, 1001, 4999, 5000, 5001, 1 << 14, 1 << 16, 1<<16 + 1, 999999, 1000000, 1000001, 1 << 21, 1 << 28, math.MaxInt32, 1 << 31, 1<<32 - 1, 1 << 32, 1<<32 + 1, 1<<32 + 3, 1<<33 + 5, 1<<34 + 2, 1<<35 - 1, 1 << 35, 1<<35 + 1}
	p := modelParts(full())
	taken := 0
	for i, x := range p {
		if x.text {
			continue
		}
		for n := range 300 + len(far) {
			if n >= 300 {
				n = far[n-300]
			}
			b := withSum(p.bytes(map[int]string{i: string(binary.AppendUvarint(nil, uint64(n)))}))
			if checkTake(t, x.name, b, 3) {
				taken++
			}
			if n > 1000000 {
				checkNone(t, x.name, b, 3)
			}
		}
	}
	if taken < 1000 {
		t.Errorf("%d are taken", taken)
	}
}

// TestMoreThanMayBe: of Views, Seen and Batch, with as many bytes as they need, with fewer, and with none.
func TestMoreThanMayBe(t *testing.T) {
	for _, many := range []int{3, 4, 5, 6, 7, 8, 100, 127, 128, 1000, 1990, 2000, 1 << 14, 1 << 20, 1<<31 - 1, 1 << 31, 1 << 32, 1<<32 + 1, 1 << 34, 1<<35 - 1, 1 << 35, math.MaxInt} {
		num := string(binary.AppendUvarint(nil, uint64(many)))
		for _, behind := range []string{
			"", "\x00", "\x01", strings.Repeat("\x00", 1900), strings.Repeat("\x01", 1900), strings.Repeat("\x80", 1900),
			strings.Repeat("\x01\x01\x01*\x00\x00\x00\x00", min(many, 200)) + "\x00",
			strings.Repeat("\x01\x01\x01\x01\x00\x00\x00\x00", min(many, 200)),
			strings.Repeat("\x01\x01\x01\x01", min(many, 400)) + "\x00\x00\x00\x00",
		} {
			for _, ahead := range []string{"\x01\x02", "\x01\x02\x00", "\x01\x02\x01\x01\x01\x01*"} {
				checkNone(t, "more than may be", withSum([]byte(ahead+num+behind)), 3)
			}
		}
	}
	// Fewer than may be, but more than there are bytes for.
	for many := byte(1); many <= 6; many++ {
		for n := range 4 * int(many) {
			row := strings.Repeat("\x01\x01\x01\x01\x00\x00\x00\x00", int(many))[:n]
			for _, ahead := range []string{"\x01\x02", "\x01\x02\x00", "\x01\x02\x01\x01\x01\x01*"} {
				checkNone(t, "more than there are bytes for", withSum(append([]byte(ahead), append([]byte{many}, row...)...)), 3)
			}
		}
	}
}

// TestNoText: of the Filter, a length that is more than what is there, or more than may be, and a text that is no filter, the sum being right.
func TestNoText(t *testing.T) {
	for _, s := range []string{
		"", "\x00", "\x01", "\x02*", "\x01*", "\x00\x00\x00\x00\x00\x00", "\x02*\x00\x00\x00\x00", "\x01a\x00\x00\x00\x00\x00", "\x81\x00*\x00\x00\x00\x00\x00", "\x05*\x00\x00\x00\x00\x00", "\x06*\x00\x00\x00\x00\x00", "\x07*\x00\x00\x00\x00\x00",
		"\xff\xff\xff\xff\x7f*\x00\x00\x00\x00\x00", "\x80\x80\x80\x80\x10*\x00\x00\x00\x00\x00", "\xff\xff\xff\xff\xff\xff\xff\xff\xff\x01*\x00\x00\x00\x00\x00",
		"\x51" + strings.Repeat(" ", 80) + "*\x00\x00\x00\x00\x00", "\x80\x01" + strings.Repeat(" ", 127) + "*\x00\x00\x00\x00\x00", "\xf8\x0a" + strings.Repeat(" ", 1399) + "*\x00\x00\x00\x00\x00",
	} {
		checkNone(t, "no text", withSum([]byte("\x01\x02\x01\x01\x01"+s)), 3)
	}
	for _, s := range []string{"\x01*\x00\x00\x00\x00\x00", "\x02 *\x00\x00\x00\x00\x00", "\x50" + strings.Repeat(" ", 79) + "*\x00\x00\x00\x00\x00"} {
		if !checkTake(t, "a text", withSum([]byte("\x01\x02\x01\x01\x01"+s)), 3) {
			t.Errorf("%q is none", s)
		}
	}
}

// TestRowsByChance: bytes of which many are near to what is told, each with its sum.
func TestRowsByChance(t *testing.T) {
	c := chance(23)
	taken := 0
	for range 60000 {
		size, many := 1+c.below(4), c.below(3)
		b := []byte{byte(c.below(4)), byte(c.below(4)), byte(many)}
		for r := range many {
			b = append(b, byte(r+1+c.below(2)), 1+byte(c.below(2)), 1, '*', 0)
			b = append(b, make([]byte, size+c.below(8)/7)...)
		}
		for range 1 + c.below(14) {
			b = append(b, byte(c.below(2)))
		}
		if checkTake(t, "by chance", withSum(b), size) {
			taken++
		}
		checkTake(t, "by chance, without a sum", b, size)
		row := c.row(c.below(40))
		checkTake(t, "by chance", row, size)
		checkTake(t, "by chance, with a sum", withSum(row), size)
	}
	if taken < 300 {
		t.Errorf("%d alone tell something", taken)
	}
}

// TestNearByChance: what may be told, turned here and there, the sum being right.
func TestNearByChance(t *testing.T) {
	c := chance(29)
	taken := 0
	for range 20000 {
		size := 2 + c.below(4)
		b := modelParts(c.gossip(size)).bytes(nil)
		for range 1 + c.below(2) {
			b[c.below(len(b))] ^= 1 << c.below(8)
		}
		if checkTake(t, "near", withSum(b), size) {
			taken++
		}
	}
	if taken < 300 {
		t.Errorf("%d alone tell something", taken)
	}
}
