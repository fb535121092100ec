package bits

import (
	"bytes"
	"encoding/binary"
	"errors"
	"math"
	"math/big"
	"slices"
	"strconv"
	"strings"
	"sync"
	"testing"
	"unsafe"
)

// chance tells numbers below n that look like chance and are the same each time.
type chance uint64

func (c *chance) below(n int) int {
	*c = *c*6364136223846793005 + 1442695040888963407
	return int(uint64(*c) >> 33 % uint64(n))
}

func (c *chance) row(n int) []byte {
	b := make([]byte, n)
	for i := range b {
		b[i] = byte(c.below(256))
	}
	return b
}

// bySevens is PutNum by the number's digits: those of two, cut into sevens from the right.
func bySevens(v int) []byte {
	digits := strconv.FormatInt(int64(v), 2)
	var b []byte
	for len(digits) > 7 {
		b = append(b, oneByte("1"+digits[len(digits)-7:]))
		digits = digits[:len(digits)-7]
	}
	return append(b, oneByte(digits))
}

func oneByte(digits string) byte {
	x, err := strconv.ParseUint(digits, 2, 8)
	if err != nil {
		panic(err)
	}
	return byte(x)
}

// taken is TakeNum by the words of the promise.
func taken(b []byte) (v, n int, ok bool) {
	last := slices.IndexFunc(b, func(x byte) bool { return x < 128 })
	tooSoon := last < 0
	tooLong := last >= 5
	notShort := last > 0 && b[last] == 0
	if tooSoon || tooLong || notShort {
		return 0, 0, false
	}
	sum := new(big.Int)
	for i, x := range b[:last+1] {
		part := big.NewInt(int64(x) % 128)
		sum.Add(sum, part.Mul(part, new(big.Int).Exp(big.NewInt(128), big.NewInt(int64(i)), nil)))
	}
	return int(sum.Int64()), last + 1, true
}

// takenText is TakeText by the words of the promise.
func takenText(b []byte) (s string, n int, ok bool) {
	long, n, ok := taken(b)
	if !ok || long > len(b[n:]) {
		return "", 0, false
	}
	return string(b[n:][:long]), n + long, true
}

// edges: each number of so many bytes that is first, last, or beside one of these.
func edges() []int {
	vs := []int{0, 1, 2, 3, 5, 9, 99, 300, 1000, 2000, 5000, 1000000, math.MaxInt32, math.MaxUint32, math.MaxInt, math.MaxInt - 1}
	for i := 1; i < 63; i++ {
		vs = append(vs, 1<<i-2, 1<<i-1, 1<<i, 1<<i+1)
	}
	return vs
}

// checkTaken holds what TakeNum and TakeText answer against the models, with and without spare room behind b.
func checkTaken(t *testing.T, b []byte) {
	t.Helper()
	v, n, ok := TakeNum(b)
	if wv, wn, wok := taken(b); v != wv || n != wn || ok != wok {
		t.Fatalf("TakeNum(%x) = %d %d %v, want %d %d %v", b, v, n, ok, wv, wn, wok)
	}
	if ok && !bytes.Equal(PutNum(nil, v), b[:n]) {
		t.Fatalf("%x is taken as %d, which is put as %x", b, v, PutNum(nil, v))
	}
	s, n, ok := TakeText(b)
	if ws, wn, wok := takenText(b); s != ws || n != wn || ok != wok {
		t.Fatalf("TakeText(%x) = %q %d %v, want %q %d %v", b, s, n, ok, ws, wn, wok)
	}
	if ok && !bytes.Equal(PutText(nil, s), b[:n]) {
		t.Fatalf("%x is taken as %q, which is put as %x", b, s, PutText(nil, s))
	}
}

func TestExamples(t *testing.T) {
	if b := PutNum(nil, 300); !bytes.Equal(b, []byte{0xAC, 0x02}) {
		t.Errorf("%x", b)
	}
	if v, n, ok := TakeNum([]byte{0xAC, 0x02}); v != 300 || n != 2 || !ok {
		t.Errorf("%d %d %v", v, n, ok)
	}
}

func TestKnownNumbers(t *testing.T) {
	for _, x := range []struct {
		v    int
		want string
	}{
		{0, "\x00"},
		{1, "\x01"},
		{127, "\x7f"},
		{128, "\x80\x01"},
		{129, "\x81\x01"},
		{255, "\xff\x01"},
		{256, "\x80\x02"},
		{300, "\xac\x02"},
		{16383, "\xff\x7f"},
		{16384, "\x80\x80\x01"},
		{2097151, "\xff\xff\x7f"},
		{2097152, "\x80\x80\x80\x01"},
		{268435455, "\xff\xff\xff\x7f"},
		{268435456, "\x80\x80\x80\x80\x01"},
		{34359738367, "\xff\xff\xff\xff\x7f"},
		{34359738368, "\x80\x80\x80\x80\x80\x01"},
		{math.MaxInt64, "\xff\xff\xff\xff\xff\xff\xff\xff\x7f"},
	} {
		if got := PutNum(nil, x.v); string(got) != x.want {
			t.Errorf("PutNum of %d: %x, want %x", x.v, got, x.want)
		}
		v, n, ok := TakeNum([]byte(x.want))
		if len(x.want) > 5 {
			x.v, x.want = 0, ""
		}
		if v != x.v || n != len(x.want) || ok != (x.want != "") {
			t.Errorf("TakeNum of %x: %d %d %v", x.want, v, n, ok)
		}
	}
}

func TestPutNum(t *testing.T) {
	for _, v := range edges() {
		want := bySevens(v)
		if !bytes.Equal(want, binary.AppendUvarint(nil, uint64(v))) {
			t.Fatalf("%d: the models are not one: %x", v, want)
		}
		for _, ahead := range []string{"", "q", "\x80", "\xff\xff", "\x00", strings.Repeat("ab", 1000)} {
			if got := PutNum([]byte(ahead), v); string(got) != ahead+string(want) {
				t.Fatalf("PutNum(%q, %d) = %x, want %x behind it", ahead, v, got, want)
			}
		}
	}
}

// TestNumbersAreTaken: what is put is taken, whatever stands behind it, and how many bytes it has; cut off anywhere it is not.
func TestNumbersAreTaken(t *testing.T) {
	c := chance(17)
	vs := edges()
	for range 20000 {
		vs = append(vs, c.below(1<<31)<<4>>c.below(36))
	}
	for v := range 40000 {
		vs = append(vs, v)
	}
	for _, v := range vs {
		put := PutNum(nil, v)
		for _, behind := range []string{"", "\x00", "\x80", "\xff\xff\xff\xff\xff\xff", "zz"} {
			got, n, ok := TakeNum(append(slices.Clone(put), behind...))
			if v < 1<<35 && (got != v || n != len(put) || !ok) || v >= 1<<35 && (got != 0 || n != 0 || ok) {
				t.Fatalf("%d, put as %x, with %x behind: %d %d %v", v, put, behind, got, n, ok)
			}
		}
		for i := range put {
			if got, n, ok := TakeNum(put[:i]); got != 0 || n != 0 || ok {
				t.Fatalf("%d, cut off behind %d bytes: %d %d %v", v, i, got, n, ok)
			}
		}
	}
}

func TestBelow0(t *testing.T) {
	for _, v := range []int{-1, -2, -127, -128, -129, -1000000, math.MinInt32, math.MinInt + 1, math.MinInt} {
		b := PutNum([]byte("q"), v)
		if !bytes.HasPrefix(b, []byte("q")) || len(b) != 11 {
			t.Errorf("%d: %x", v, b)
		}
		if got, n, ok := TakeNum(b[1:]); got != 0 || n != 0 || ok {
			t.Errorf("%d is put as %x and taken as %d", v, b, got)
		}
		if !bytes.Equal(b, PutNum([]byte("q"), v)) {
			t.Errorf("%d: not the same each time", v)
		}
	}
}

func TestNoNumber(t *testing.T) {
	none := []string{
		"",
		"\x80", "\xff", "\x80\x80", "\xff\xff", "\x80\x80\x80", "\xff\xff\xff", "\xff\xff\xff\xff", "\x80\x80\x80\x80", "\xff\xff\xff\xff\xff", "\x80\x80\x80\x80\x80",
		"\x80\x00", "\x81\x00", "\xff\x00", "\x80\x80\x00", "\xff\xff\x00", "\x80\x80\x80\x00", "\xff\xff\xff\x00", "\x80\x80\x80\x80\x00", "\xff\xff\xff\xff\x00", "\x81\x80\x80\x80\x00", "\x80\x80\x80\x81\x00",
		"\x80\x80\x80\x80\x80\x00", "\x80\x80\x80\x80\x80\x01", "\xff\xff\xff\xff\xff\x7f", "\x81\x80\x80\x80\x80\x01", "\x80\x80\x80\x80\x80\x80\x01", "\xff\xff\xff\xff\xff\xff\xff\xff\x7f", "\x80\x80\x80\x80\x80\x80\x80\x80\x80\x00",
		strings.Repeat("\xff", 100), strings.Repeat("\x80", 100) + "\x01",
	}
	for _, s := range none {
		b := []byte(s)
		if v, n, ok := TakeNum(b); v != 0 || n != 0 || ok {
			t.Errorf("TakeNum(%x) = %d %d %v", b, v, n, ok)
		}
		for _, behind := range []string{"", "a", strings.Repeat("a", 20)} {
			if text, n, ok := TakeText(append(slices.Clone(b), behind...)); (text != "" || n != 0 || ok) && (len(b) > 0 && b[len(b)-1] < 128 || behind == "") {
				t.Errorf("TakeText(%x%x) = %q %d %v", b, behind, text, n, ok)
			}
		}
		checkTaken(t, b)
	}
	for _, b := range [][]byte{nil, {}, []byte("\x05spare")[:0]} {
		if v, n, ok := TakeNum(b); v != 0 || n != 0 || ok {
			t.Errorf("no byte: %d %d %v", v, n, ok)
		}
		if s, n, ok := TakeText(b); s != "" || n != 0 || ok {
			t.Errorf("no byte: %q %d %v", s, n, ok)
		}
	}
}

func TestEachByte(t *testing.T) {
	for x := range 256 {
		v, n, ok := TakeNum([]byte{byte(x)})
		if x < 128 && (v != x || n != 1 || !ok) || x >= 128 && (v != 0 || n != 0 || ok) {
			t.Errorf("%02x: %d %d %v", x, v, n, ok)
		}
		checkTaken(t, []byte{byte(x)})
	}
}

// TestSpareRoomIsNotLookedAt: a number that goes on behind the end of b, in its spare room, ends too soon.
func TestSpareRoomIsNotLookedAt(t *testing.T) {
	all := []byte("\x80\x80\x80\x80\x01\x03abc")
	for n := range 5 {
		if v, k, ok := TakeNum(all[:n]); v != 0 || k != 0 || ok {
			t.Errorf("%d bytes: %d %d %v", n, v, k, ok)
		}
	}
	for n := range 4 {
		if s, k, ok := TakeText(all[5:][:n]); s != "" || k != 0 || ok {
			t.Errorf("%d bytes: %q %d %v", n, s, k, ok)
		}
	}
}

func TestEachRowOfThree(t *testing.T) {
	for x := range 1 << 16 {
		b := []byte{byte(x), byte(x >> 8)}
		checkTaken(t, b)
		for _, last := range []byte{0x00, 0x01, 0x7F, 0x80, 0xFF} {
			checkTaken(t, append(b, last))
		}
	}
}

// TestRowsOfEdges: each row of up to seven of the bytes at which something turns.
func TestRowsOfEdges(t *testing.T) {
	kinds := []byte{0x00, 0x01, 0x02, 0x7F, 0x80, 0x81, 0xFF}
	var row [7]byte
	var walk func(n int)
	walk = func(n int) {
		checkTaken(t, row[:n])
		if n == len(row) {
			return
		}
		for _, x := range kinds {
			row[n] = x
			walk(n + 1)
		}
	}
	walk(0)
}

func TestRowsByChance(t *testing.T) {
	c := chance(1)
	for range 200000 {
		b := c.row(c.below(12))
		for i := range b {
			if c.below(3) > 0 && i < 5 {
				b[i] |= 0x80
			}
		}
		if c.below(2) == 0 && len(b) > 0 {
			b[0] = byte(c.below(12))
		}
		checkTaken(t, b)
	}
}

func allBytes() string {
	b := make([]byte, 256)
	for i := range b {
		b[i] = byte(i)
	}
	return string(b)
}

func texts() []string {
	all := []string{"", "a", "ab", "\x00", "\x80", "\xff\xff\xff\xff\xff\xff", "\x03abc", "é, ü, ∀", "\xed\xa0\x80", allBytes()}
	for _, n := range []int{1, 2, 126, 127, 128, 129, 255, 256, 2000, 16382, 16383, 16384, 16385} {
		c := chance(n)
		all = append(all, strings.Repeat("x", n), string(c.row(n)), strings.Repeat("\x00", n), strings.Repeat("\xff", n))
	}
	return append(all, strings.Repeat("xyz", 1<<21/3+1))
}

func TestTextsAreTaken(t *testing.T) {
	for _, s := range texts() {
		for _, ahead := range []string{"", "q", "\x80", allBytes()} {
			if got := PutText([]byte(ahead), s); string(got) != ahead+string(bySevens(len(s)))+s {
				t.Fatalf("PutText(%q, %.20q of %d bytes) = %.40x", ahead, s, len(s), got)
			}
		}
		put := PutText(nil, s)
		for _, behind := range []string{"", "\x00", "\x80", "more", "\xff\xff\xff\xff\xff\xff"} {
			if got, n, ok := TakeText(append(slices.Clone(put), behind...)); got != s || n != len(put) || !ok {
				t.Fatalf("%.20q of %d bytes, with %x behind: %.20q %d %v", s, len(s), behind, got, n, ok)
			}
		}
		for n := 0; n < len(put); n += 1 + len(put)/300 {
			if got, k, ok := TakeText(put[:n]); got != "" || k != 0 || ok {
				t.Fatalf("%.20q of %d bytes, cut off behind %d: %.20q %d %v", s, len(s), n, got, k, ok)
			}
		}
		if got, k, ok := TakeText(put[:len(put)-1]); got != "" || k != 0 || ok {
			t.Fatalf("%.20q of %d bytes, cut off by one: %.20q %d %v", s, len(s), got, k, ok)
		}
	}
}

func TestEachByteInAText(t *testing.T) {
	for x := range 256 {
		one := string([]byte{byte(x)})
		for _, s := range []string{one, one + one, "a" + one, one + "a", "a" + one + "b"} {
			put := PutText(nil, s)
			if got, n, ok := TakeText(put); got != s || n != len(put) || !ok {
				t.Errorf("%q: %q %d %v", s, got, n, ok)
			}
		}
	}
}

// TestLongerThanWhatIsThere: by one, and by very much, up to the greatest length that is a number.
func TestLongerThanWhatIsThere(t *testing.T) {
	for _, there := range []string{"", "a", "abc", strings.Repeat("x", 126), strings.Repeat("x", 127), strings.Repeat("x", 200)} {
		for _, by := range []int{1, 2, 3, 100, 128, 1000, 16384, 1 << 21, 1 << 28, math.MaxInt32, 1<<32 - 1, 1 << 32, 1<<32 + 1, 1<<35 - 1 - len(there)} {
			b := append(bySevens(len(there)+by), there...)
			if s, n, ok := TakeText(b); s != "" || n != 0 || ok {
				t.Errorf("%d more than %d: %q %d %v", by, len(there), s, n, ok)
			}
			v, n, ok := TakeNum(b)
			if v != len(there)+by || n != len(b)-len(there) || !ok {
				t.Errorf("%d more than %d: its length %d %d %v", by, len(there), v, n, ok)
			}
		}
	}
	for _, v := range []int{1 << 35, 1 << 62, math.MaxInt, -1, math.MinInt} {
		if s, n, ok := TakeText(append(PutNum(nil, v), "abc"...)); s != "" || n != 0 || ok {
			t.Errorf("%d: %q %d %v", v, s, n, ok)
		}
	}
}

// TestRowsOfBoth: what is put one behind the other is taken so, to the last byte.
func TestRowsOfBoth(t *testing.T) {
	c := chance(2)
	for range 2000 {
		var b []byte
		var nums []int
		var said []string
		for range c.below(20) {
			v, s := c.below(1<<31)>>c.below(31), string(c.row(c.below(200)>>c.below(8)))
			b = PutText(PutNum(b, v), s)
			nums, said = append(nums, v), append(said, s)
		}
		for i, v := range nums {
			got, n, ok := TakeNum(b)
			if got != v || !ok {
				t.Fatalf("%d of %d: %d, want %d", i, len(nums), got, v)
			}
			s, k, ok := TakeText(b[n:])
			if s != said[i] || !ok {
				t.Fatalf("%d of %d: %q, want %q", i, len(nums), s, said[i])
			}
			b = b[n+k:]
		}
		if len(b) > 0 {
			t.Fatalf("%x is left", b)
		}
	}
}

// puts is each way to put something.
func puts() map[string]func(b []byte) []byte {
	return map[string]func(b []byte) []byte{
		"0":           func(b []byte) []byte { return PutNum(b, 0) },
		"5":           func(b []byte) []byte { return PutNum(b, 5) },
		"300":         func(b []byte) []byte { return PutNum(b, 300) },
		"1<<34":       func(b []byte) []byte { return PutNum(b, 1<<34) },
		"the last":    func(b []byte) []byte { return PutNum(b, math.MaxInt) },
		"below 0":     func(b []byte) []byte { return PutNum(b, -1) },
		"no byte":     func(b []byte) []byte { return PutText(b, "") },
		"abc":         func(b []byte) []byte { return PutText(b, "abc") },
		"a long text": func(b []byte) []byte { return PutText(b, strings.Repeat("x", 300)) },
	}
}

func TestNilAndEmpty(t *testing.T) {
	for name, put := range puts() {
		want := put(nil)
		for _, b := range [][]byte{{}, make([]byte, 0, 100), []byte("spare")[:0]} {
			if got := put(b); !bytes.Equal(got, want) {
				t.Errorf("%s: %x, to nil %x", name, got, want)
			}
		}
	}
}

// TestNewMemory: neither b nor its spare room is changed, and what is told shares nothing with it or with what was told ahead, whatever is put into either.
func TestNewMemory(t *testing.T) {
	for name, put := range puts() {
		for n := range 5 {
			for _, spare := range []int{0, 1, 2, 9, 10, 11, 400} {
				all := bytes.Repeat([]byte("0123456789"), 60)[:n+spare]
				was := slices.Clone(all)
				b := all[:n]
				first := put(b)
				told := slices.Clone(first)
				if second := put(b); !bytes.Equal(first, second) {
					t.Fatalf("%s behind %d bytes, %d spare: %x, the second time %x", name, n, spare, first, second)
				}
				for _, other := range puts() {
					overwrite(other(b))
				}
				if !bytes.Equal(all, was) || !bytes.Equal(first, told) {
					t.Fatalf("%s behind %d bytes, %d spare: %x is %x, %x is %x", name, n, spare, was, all, told, first)
				}
				overwrite(first)
				if !bytes.Equal(all, was) {
					t.Fatalf("%s behind %d bytes, %d spare: %x is %x", name, n, spare, was, all)
				}
				again := put(b)
				overwrite(all)
				if !bytes.Equal(again, told) {
					t.Fatalf("%s behind %d bytes, %d spare: %x is %x", name, n, spare, told, again)
				}
			}
		}
	}
}

// overwrite turns each byte of b, its spare room too.
func overwrite(b []byte) {
	b = b[:cap(b)]
	for i := range b {
		b[i] ^= 0xFF
	}
}

func TestTakenTextIsNewMemory(t *testing.T) {
	for _, s := range []string{"ab", "abc", strings.Repeat("x", 300)} {
		b := append(PutText(nil, s), "more"...)
		was := slices.Clone(b)
		first, _, _ := TakeText(b)
		second, _, _ := TakeText(b)
		v, n, ok := TakeNum(b)
		if v != len(s) || !ok || n != len(b)-4-len(s) || !bytes.Equal(b, was) {
			t.Fatalf("%x was %x", b, was)
		}
		overwrite(b)
		if first != s || second != s {
			t.Errorf("%q, %q, want %q", first, second, s)
		}
		if unsafe.StringData(first) == unsafe.StringData(second) {
			t.Errorf("%q: told twice in one place", s)
		}
	}
}

func TestWhyIsWrapped(t *testing.T) {
	for _, b := range [][]byte{nil, {0x80}, {0x80, 0x00}, {0xFF, 0xFF, 0xFF, 0xFF, 0xFF, 0x01}, {0x05, 'a'}} {
		_, _, err := text(b)
		var f fault
		if !errors.Is(err, errNone) || !errors.As(err, &f) || !strings.HasSuffix(err.Error(), errNone.Error()) {
			t.Errorf("%x: %v", b, err)
		}
	}
	_, _, err := text([]byte{0x80, 0x00})
	if got := err.Error(); got != "the length of a text: a last byte of 0: bits: there is none" {
		t.Error(got)
	}
}

func TestSameEachTime(t *testing.T) {
	c := chance(3)
	rows := [][]byte{nil, {0xAC, 0x02}, {0x80}, c.row(9), append([]byte{0xAC, 0x02}, c.row(400)...)}
	var all sync.WaitGroup
	for range 8 {
		all.Go(func() {
			for range 50 {
				for _, b := range rows {
					checkSame(t, b)
				}
			}
		})
	}
	all.Wait()
}

func checkSame(t *testing.T, b []byte) {
	v, n, ok := TakeNum(b)
	if wv, wn, wok := taken(b); v != wv || n != wn || ok != wok {
		t.Errorf("TakeNum(%x) = %d %d %v", b, v, n, ok)
	}
	s, n, ok := TakeText(b)
	if ws, wn, wok := takenText(b); s != ws || n != wn || ok != wok {
		t.Errorf("TakeText(%x) = %q %d %v", b, s, n, ok)
	}
	if got := PutText(b, s); string(got) != string(b)+string(bySevens(len(s)))+s {
		t.Errorf("PutText(%x, %q) = %x", b, s, got)
	}
}
