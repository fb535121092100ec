package net

import (
	"math"
	"strings"
	"testing"

	"cardamom/api"
)

// allBytes has each byte that there is, in order.
func allBytes() string {
	var b []byte
	for i := range 256 {
		b = append(b, byte(i))
	}
	return string(b)
}

// bodies is texts of one byte, of few, of as many as may be on their way; with bytes above 127 and a nought byte.
func bodies() []string {
	return []string{"\x00", "\x7f", "\x80", "\xff", "a", "bc", "\x00\x00", "\xff\x00\xff", "é€", "abcdefg", allBytes(), strings.Repeat("\x00", 255), strings.Repeat("yz", 128) + "x", strings.Repeat("abc\xf0\x00", api.MaxFrame/5)}
}

// turnOne is the promise's words: byte number at of s, alone, with bits turned.
func turnOne(s string, at, bits int) string {
	out := s[:at]
	byTwo := func(b, bit int) int { return b >> bit & 1 }
	turned := 0
	for bit := range 8 {
		if byTwo(int(s[at]), bit) != byTwo(bits, bit) {
			turned += 1 << bit
		}
	}
	return out + string([]byte{byte(turned)}) + s[at+1:]
}

// wantTurned asks for number i of l turned by to, into this text.
func wantTurned(t *testing.T, l []api.Gram, i, to int, text string) {
	t.Helper()
	wanted := join(l)
	wanted[i].B, wanted[i].Turned = text, true
	got, ok := Turned(l, i, to)
	want(t, "Turned", got, ok, wanted, true)
}

// TestEachBit: each of the bits 1 to 255, of the first byte, the last, one in the middle, one beyond the last, and far beyond it.
func TestEachBit(t *testing.T) {
	for _, s := range bodies() {
		n := len(s)
		l := []api.Gram{gram("before"), {From: 4, To: 3, B: s}, gram("behind")}
		for bits := 1; bits < 256; bits++ {
			for _, at := range []int{0, n / 2, n - 1, n, n + 1, 2*n - 1, 2 * n, 1000 * n, 1000*n - 1} {
				wantTurned(t, l, 1, at*256+bits, turnOne(s, at%n, bits))
			}
		}
	}
}

// TestEachByte: each byte of each text, and the same again behind the last.
func TestEachByte(t *testing.T) {
	for _, s := range bodies() {
		for at := range s[:min(len(s), 300)] {
			for _, bits := range []int{1, 2, 127, 128, 255} {
				wantTurned(t, []api.Gram{gram(s)}, 0, at*256+bits, turnOne(s, at, bits))
				wantTurned(t, []api.Gram{gram(s)}, 0, (at+len(s))*256+bits, turnOne(s, at, bits))
			}
		}
	}
}

// TestTurnedExamples: some of them written out.
func TestTurnedExamples(t *testing.T) {
	for _, x := range []struct {
		s    string
		to   int
		want string
	}{
		{"a", 1, "`"}, {"a", 255, "\x9e"}, {"a", 256 + 1, "`"}, {"a", 256*1000 + 2, "c"},
		{"\x00", 255, "\xff"}, {"\xff", 255, "\x00"}, {"\x80", 128, "\x00"}, {"\x00", 128, "\x80"},
		{"bc", 1, "cc"}, {"bc", 256 + 1, "bb"}, {"bc", 512 + 1, "cc"}, {"bc", 3*256 + 1, "bb"},
		{"abc", 2*256 + 255, "ab\x9c"}, {"abc", 3*256 + 32, "Abc"},
		// The greatest number there can be: its bits are all, and 2^55 - 1 modulo 5 is 2.
		{"abcde", math.MaxInt, "ab\x9cde"}, {"a", math.MaxInt, "\x9e"}, {"ab", math.MaxInt - 254, "ac"},
		// As many bytes as bits, where one could be taken for the other.
		{strings.Repeat("x", 256), 255*256 + 1, strings.Repeat("x", 255) + "y"}, {strings.Repeat("x", 256), 256*256 + 1, "y" + strings.Repeat("x", 255)},
	} {
		wantTurned(t, []api.Gram{gram(x.s)}, 0, x.to, x.want)
		wantTurned(t, []api.Gram{turned(x.s), gram(x.s), gram(x.s)}, 1, x.to, x.want)
	}
}

// TestTurnedAtEachPlace: number i alone is turned: the first, the last, each between, of each count.
func TestTurnedAtEachPlace(t *testing.T) {
	for n := 1; n <= api.MaxFly; n++ {
		for i := range n {
			l := grams(n)
			if l[i].Turned {
				got, ok := Turned(l, i, 5)
				want(t, "turned already", got, ok, grams(n), false)
				l[i].Turned = false
			}
			wantTurned(t, l, i, 3*256+5, turnOne(l[i].B, 3, 5))
		}
	}
}

// leftNumbers is numbers that turn nothing, and some that turn something: both ends, no bits, below 0.
func leftNumbers() []int {
	return []int{math.MinInt, math.MinInt + 1, math.MinInt + 255, math.MinInt + 256, math.MinInt32, -65536, -513, -512, -511, -257, -256, -255, -254, -128, -2, -1, 0, 256, 512, 3 * 256, 255 * 256, 65536, 1 << 40, math.MaxInt - 255}
}

// TestTurnedAlready: no, whatever to is: with and without bits, below 0, at either end.
func TestTurnedAlready(t *testing.T) {
	for _, g := range []api.Gram{turned("bc"), turned("a"), turned(""), turned("\x00"), {Turned: true}} {
		l := []api.Gram{gram("a"), g, turned("b")}
		for _, to := range append(leftNumbers(), 1, 2, 255, 257, 9*256+7, math.MaxInt, math.MaxInt-1) {
			got, ok := Turned(l, 1, to)
			want(t, "turned already", got, ok, l, false)
		}
	}
}

// TestTurnedOnce: once it is turned it is told no, by the same bits too, and stays as it is.
func TestTurnedOnce(t *testing.T) {
	l, _ := Turned([]api.Gram{gram("abc")}, 0, 256+7)
	for _, to := range []int{256 + 7, 7, 0, -1, 1, 512 + 7} {
		again, ok := Turned(l, 0, to)
		want(t, "again", again, ok, []api.Gram{turned("aec")}, false)
	}
}

// TestLeftAsItIs: without a byte, a bit, or with to below 0 it is as it is, not Turned, and that is no no; it may be turned then.
func TestLeftAsItIs(t *testing.T) {
	l := []api.Gram{gram("a"), gram(""), gram("bc"), gram(strings.Repeat("x", api.MaxFrame)), {}}
	for i, g := range l {
		for _, to := range leftNumbers() {
			got, ok := Turned(l, i, to)
			want(t, "as it is", got, ok, l, true)
			if g.B != "" {
				wantTurned(t, got, i, 9, turnOne(g.B, 0, 9))
			}
		}
	}
	for _, to := range []int{1, 5, 255, 256, 257, math.MaxInt, math.MaxInt - 1} {
		got, ok := Turned(l, 1, to)
		want(t, "no byte", got, ok, l, true)
	}
}
