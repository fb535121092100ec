package crc

import (
	"bytes"
	"slices"
	"strings"
	"sync"
	"testing"
)

// divided is Sum by a long division, on paper as it were: the whole row of bits with sixteen of 0 behind it, its first sixteen turned (begun with FFFF).
func divided(b []byte) uint16 {
	var row []bool
	for _, x := range b {
		for _, bit := range []byte{128, 64, 32, 16, 8, 4, 2, 1} {
			row = append(row, x&bit != 0)
		}
	}
	row = append(row, make([]bool, 16)...)
	for i := range 16 {
		row[i] = !row[i]
	}
	for i := range len(row) - 16 {
		if row[i] {
			for _, at := range []int{0, 4, 11, 16} { // 11021 is x to the 16, 12, 5 and 0
				row[i+at] = !row[i+at]
			}
		}
	}
	sum := uint16(0)
	for _, bit := range row[len(row)-16:] {
		sum *= 2
		if bit {
			sum++
		}
	}
	return sum
}

// cells is Sum bit by bit, by sixteen cells of a bit each, of which the bit that comes out at the upper end turns three.
func cells(b []byte) uint16 {
	var cell [16]int
	for i := range cell {
		cell[i] = 1
	}
	for _, x := range b {
		for at := 7; at >= 0; at-- {
			out := cell[15] ^ int(x>>at&1)
			copy(cell[1:], cell[:15])
			cell[0] = out
			cell[5] ^= out
			cell[12] ^= out
		}
	}
	sum := 0
	for i, bit := range cell {
		sum |= bit << i
	}
	return uint16(sum)
}

// chance tells numbers below n that look like chance and are the same each time.
type chance uint64

func (c *chance) below(n int) int {
	*c = *c*6364136223846793005 + 1442695040888963407
	return int(uint64(*c) >> 33 % uint64(n))
}

func (c *chance) row(n int) []byte {
	b := make([]byte, n)
	for i := range b {
		b[i] = byte(c.below(256))
	}
	return b
}

func counted(n int) []byte {
	b := make([]byte, n)
	for i := range b {
		b[i] = byte(i)
	}
	return b
}

func both(t *testing.T, b []byte) {
	t.Helper()
	got := Sum(b)
	if want := divided(b); got != want {
		t.Fatalf("Sum(%x) = %04X, divided %04X", b, got, want)
	}
	if want := cells(b); got != want {
		t.Fatalf("Sum(%x) = %04X, by cells %04X", b, got, want)
	}
}

// TestKnownSums: the sums were told by another program of the same row of bits.
func TestKnownSums(t *testing.T) {
	for _, x := range []struct {
		b    string
		want uint16
	}{
		{"123456789", 0x29B1},
		{"", 0xFFFF},
		{"A", 0xB915},
		{"\x00", 0xE1F0},
		{"\xff", 0xFF00},
		{"\x80", 0x7078},
		{"\x01", 0xF1D1},
		{"\x00\x00", 0x1D0F},
		{"\xff\xff", 0x0000},
		{"\xff\xff\x00\x00", 0x0000},
		{"what is told to another", 0x399B},
		{"cardamom", 0x71CD},
		{"\x00cardamom", 0x5881},
		{"cardamom\x00", 0xA3B6},
		{"\x1d\x0f", 0x99CF},
		{"\x29\xb1", 0x168B},
		{string(counted(256)), 0x3FBD},
		{strings.Repeat("\xff", 300), 0xB2F5},
		{strings.Repeat("\x00", 300), 0x682F},
		{strings.Repeat("a", 300), 0x1F01},
	} {
		if got := Sum([]byte(x.b)); got != x.want {
			t.Errorf("Sum(%x) = %04X, want %04X", x.b, got, x.want)
		}
	}
}

func TestNoByte(t *testing.T) {
	for _, b := range [][]byte{nil, {}, make([]byte, 0, 9), []byte("spare")[:0]} {
		if got := Sum(b); got != 0xFFFF {
			t.Errorf("no byte, %d spare: %04X", cap(b), got)
		}
	}
}

func TestEachByte(t *testing.T) {
	var of [1 << 16]int
	for x := range 256 {
		b := []byte{byte(x)}
		both(t, b)
		of[Sum(b)]++
	}
	for sum, n := range of {
		if n > 1 {
			t.Errorf("%d bytes have the sum %04X", n, sum)
		}
	}
}

func TestEachTwoBytes(t *testing.T) {
	var of [1 << 16]int
	for x := range 1 << 16 {
		b := []byte{byte(x >> 8), byte(x)}
		both(t, b)
		of[Sum(b)]++
	}
	for sum, n := range of {
		if n != 1 {
			t.Fatalf("%d rows of two bytes have the sum %04X", n, sum)
		}
	}
}

func TestHighestBitAndLowest(t *testing.T) {
	for n := 1; n <= 40; n++ {
		for i := range n {
			high, low := make([]byte, n), make([]byte, n)
			high[i], low[i] = 0x80, 0x01
			both(t, high)
			both(t, low)
			if Sum(high) == Sum(low) {
				t.Errorf("%d of %d: the highest bit's sum is the lowest's", i, n)
			}
		}
	}
}

func TestEachBitTurned(t *testing.T) {
	c := chance(16)
	for _, n := range []int{1, 2, 3, 4, 7, 16, 64, 300} {
		for _, b := range [][]byte{make([]byte, n), bytes.Repeat([]byte{0xFF}, n), counted(n), c.row(n)} {
			turnEachBit(t, b)
		}
	}
}

// turnEachBit: no bit turned leaves the sum, and no two bits turn it alike (the rows are shorter than the 32767 bits behind which it comes round).
func turnEachBit(t *testing.T, b []byte) {
	t.Helper()
	sum := Sum(b)
	of := map[uint16]int{}
	for i := range 8 * len(b) {
		turned := slices.Clone(b)
		turned[i/8] ^= 0x80 >> (i % 8)
		got := Sum(turned)
		if was, ok := of[got]; ok || got == sum {
			t.Fatalf("%x: bit %d turned: %04X, with no turn %04X, with bit %d %v", b, i, got, sum, was, ok)
		}
		of[got] = i
		both(t, turned)
	}
}

func TestZeros(t *testing.T) {
	alone := map[uint16]int{}
	for n := range 400 {
		b := make([]byte, n)
		both(t, b)
		if was, ok := alone[Sum(b)]; ok {
			t.Fatalf("%d bytes of 0 have the sum of %d", n, was)
		}
		alone[Sum(b)] = n
	}
	for _, s := range []string{"\x01", "\x80", "\xff", "a", "123456789", "\x00x\x00"} {
		ahead, behind := map[uint16]int{}, map[uint16]int{}
		for n := range 100 {
			a, b := append(make([]byte, n), s...), append([]byte(s), make([]byte, n)...)
			both(t, a)
			both(t, b)
			ahead[Sum(a)]++
			behind[Sum(b)]++
		}
		if len(ahead) != 100 || len(behind) != 100 {
			t.Errorf("%x: %d sums with 0 ahead, %d with 0 behind", s, len(ahead), len(behind))
		}
	}
}

func TestEachLength(t *testing.T) {
	c := chance(1)
	for n := range 700 {
		for _, x := range []byte{0x00, 0x01, 0x55, 0x80, 0xAA, 0xFF, byte(n)} {
			both(t, bytes.Repeat([]byte{x}, n))
		}
		both(t, c.row(n))
		both(t, counted(n))
	}
	for _, n := range []int{1999, 2000, 2001, 4096, 40000} {
		both(t, c.row(n))
	}
}

// TestSumsAtEachStep: a row goes on from what is left of the bytes ahead, whether its highest bit is there or not, at each step of each of the 65536 that may be left.
func TestSumsAtEachStep(t *testing.T) {
	var left [1 << 16]bool
	upper := map[bool]int{}
	for x := range 1 << 16 {
		ahead := []byte{byte(x >> 8), byte(x)}
		sum := Sum(ahead)
		left[sum] = true
		upper[sum&0x8000 != 0]++
		for _, next := range []byte{0x00, 0xFF, 0x80, byte(x * 7)} {
			if got, want := Sum(append(ahead, next)), cells(append(ahead, next)); got != want {
				t.Fatalf("%04X and %02X: %04X, want %04X", sum, next, got, want)
			}
		}
	}
	if slices.Contains(left[:], false) || upper[true] != upper[false] {
		t.Fatalf("not all that may be left is: %v", upper)
	}
}

func TestTwoBytesSideBySide(t *testing.T) {
	c := chance(2)
	for _, n := range []int{1, 2, 3, 4, 9, 23} {
		for _, b := range [][]byte{make([]byte, n), c.row(n)} {
			for i := range n {
				turnTwo(t, b, i)
			}
		}
	}
	long := c.row(2000)
	for _, i := range []int{0, 1, 999, 1998, 1999} {
		for turn := 1; turn < 1<<16; turn += 251 {
			turnOne(t, long, Sum(long), i, turn)
		}
	}
}

// turnTwo turns the byte i, and the one behind it if there is one, in each way in which one of them or both can be turned.
func turnTwo(t *testing.T, b []byte, i int) {
	t.Helper()
	most := 1 << 16
	if i == len(b)-1 {
		most = 1 << 8
	}
	sum := Sum(b)
	for turn := 1; turn < most; turn++ {
		turnOne(t, b, sum, i, turn)
	}
}

func turnOne(t *testing.T, b []byte, sum uint16, i, turn int) {
	t.Helper()
	turned := slices.Clone(b)
	turned[i] ^= byte(turn)
	if i+1 < len(b) {
		turned[i+1] ^= byte(turn >> 8)
	}
	if bytes.Equal(turned, b) {
		return
	}
	if Sum(turned) == sum {
		t.Fatalf("%x at %d of %x is not seen", turn, i, b)
	}
}

func TestSwapped(t *testing.T) {
	b := []byte("each keeps what it wants")
	for i := range len(b) - 1 {
		turned := slices.Clone(b)
		turned[i], turned[i+1] = b[i+1], b[i]
		if b[i] != b[i+1] && Sum(turned) == Sum(b) {
			t.Errorf("%q has the sum of %q", turned, b)
		}
	}
}

// TestTurnsAddUp: by how much the sum of a row turns hangs on what is turned, not on the row.
func TestTurnsAddUp(t *testing.T) {
	c := chance(3)
	for n := range 60 {
		a, b := c.row(n), c.row(n)
		sum := slices.Clone(a)
		for i := range sum {
			sum[i] ^= b[i]
		}
		if Sum(sum) != Sum(a)^Sum(b)^Sum(make([]byte, n)) {
			t.Fatalf("%x and %x", a, b)
		}
	}
}

// TestSumBehind: a row with its own sum behind it, the highest byte first, has nothing left.
func TestSumBehind(t *testing.T) {
	c := chance(4)
	for n := range 300 {
		b := c.row(n)
		sum := Sum(b)
		if got := Sum(append(b, byte(sum>>8), byte(sum))); got != 0 {
			t.Fatalf("%x: %04X is left", b, got)
		}
	}
}

func TestLeftAsItWas(t *testing.T) {
	c := chance(5)
	for n := range 100 {
		all := c.row(n + 9)
		was := slices.Clone(all)
		b := all[:n]
		sum := Sum(b)
		if !bytes.Equal(all, was) {
			t.Fatalf("%x was %x", all, was)
		}
		if got := Sum(slices.Clip(slices.Clone(b))); got != sum {
			t.Fatalf("%x: %04X without spare room, %04X with it", b, got, sum)
		}
	}
}

func TestSameEachTime(t *testing.T) {
	c := chance(6)
	rows := [][]byte{nil, c.row(1), c.row(9), c.row(300)}
	var first []uint16
	for _, b := range rows {
		first = append(first, Sum(b))
	}
	var all sync.WaitGroup
	for range 8 {
		all.Go(func() {
			for range 20 {
				for i, b := range rows {
					if got := Sum(b); got != first[i] {
						t.Errorf("%x: %04X, %04X at first", b, got, first[i])
					}
				}
			}
		})
	}
	all.Wait()
}
