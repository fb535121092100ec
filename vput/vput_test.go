package vput

import (
	"bytes"
	"encoding/binary"
	"errors"
	"math"
	"reflect"
	"slices"
	"strings"
	"sync"
	"testing"
	"unsafe"

	"cardamom/api"
)

// chance tells numbers below n that look like chance and are the same each time.
type chance uint64

func (c *chance) below(n int) int {
	*c = *c*6364136223846793005 + 1442695040888963407
	return int(uint64(*c) >> 33 % uint64(n))
}

func (c *chance) row(n int) []byte {
	b := make([]byte, n)
	for i := range b {
		b[i] = byte(c.below(256))
	}
	return b
}

// version is any that may be.
func (c *chance) version() api.Version {
	l := 1 + c.below(5000)>>c.below(13)
	v := api.Version{
		Item: 1 + c.below(6),
		S:    api.Stamp{L: l, R: 1 + c.below(5), N: 1 + c.below(min(l, 1000))},
		Dead: c.below(4) == 0,
	}
	for key := range 4 {
		if len(v.Attrs) < 3 && c.below(2) == 0 {
			v.Attrs = append(v.Attrs, api.Attr{Key: key, Val: c.below(100)})
		}
	}
	for range c.below(7) {
		v.Tag += string(rune('a' + c.below(26)))
	}
	if !v.Dead {
		v.Body = string(c.row(c.below(13)))
	}
	return v
}

// full is a version with something in each part, of as many as may be.
func full() api.Version {
	return api.Version{
		Item:  6,
		S:     api.Stamp{L: 5000, R: 5, N: 1000},
		Attrs: []api.Attr{{Key: 0, Val: 99}, {Key: 2, Val: 0}, {Key: 3, Val: 50}},
		Tag:   "abmxyz",
		Body:  "\x00\xff twelve by",
	}
}

// turn is full with one thing changed.
func turn(change func(v *api.Version)) api.Version {
	v := full()
	change(&v)
	return v
}

func withItem(n int) api.Version { return turn(func(v *api.Version) { v.Item = n }) }

func withStamp(l, r, n int) api.Version {
	return turn(func(v *api.Version) { v.S = api.Stamp{L: l, R: r, N: n} })
}

func withAttrs(l ...api.Attr) api.Version { return turn(func(v *api.Version) { v.Attrs = l }) }

func withKeys(keys ...int) api.Version {
	var l []api.Attr
	for _, key := range keys {
		l = append(l, api.Attr{Key: key, Val: 1})
	}
	return withAttrs(l...)
}

func withTag(tag string) api.Version { return turn(func(v *api.Version) { v.Tag = tag }) }

func withBody(body string) api.Version { return turn(func(v *api.Version) { v.Body = body }) }

func dead(body string) api.Version {
	return turn(func(v *api.Version) { v.Dead, v.Body = true, body })
}

func allBytes() string {
	b := make([]byte, 256)
	for i := range b {
		b[i] = byte(i)
	}
	return string(b)
}

// edges is versions that may be, each number of them at its least and its greatest, each row without one and with as many as may be.
func edges() []api.Version {
	l := []api.Version{
		full(), {Item: 1, S: api.Stamp{L: 1, R: 1, N: 1}},
		{Item: 1, S: api.Stamp{L: 1, R: 1, N: 1}, Dead: true},
		withItem(1), withItem(6),
		withStamp(1, 1, 1), withStamp(1, 5, 1), withStamp(5000, 1, 1), withStamp(5000, 1, 1000), withStamp(5000, 5, 1000),
		withStamp(127, 2, 127), withStamp(128, 2, 127), withStamp(128, 2, 128), withStamp(300, 2, 299), withStamp(1000, 3, 1000), withStamp(999, 3, 999),
		withAttrs(), withAttrs([]api.Attr{}...), withKeys(0), withKeys(1), withKeys(2), withKeys(3), withKeys(0, 3), withKeys(1, 2), withKeys(0, 1, 2), withKeys(1, 2, 3),
		withAttrs(api.Attr{Key: 0, Val: 0}), withAttrs(api.Attr{Key: 3, Val: 99}), withAttrs(api.Attr{Key: 1, Val: 99}, api.Attr{Key: 2, Val: 99}, api.Attr{Key: 3, Val: 99}),
		withTag(""), withTag("a"), withTag("z"), withTag("zzzzz"), withTag("azazaz"),
		withBody(""), withBody("\x00"), withBody("\xff"), withBody("\x80"), withBody("eleven byte"), withBody(strings.Repeat("\x00", 12)), withBody(strings.Repeat("\xff", 12)), withBody("éééééé"), withBody("\xed\xa0\x80"),
		dead(""), turn(func(v *api.Version) { *v = api.Version{Item: 2, S: v.S, Dead: true, Tag: "b"} }),
	}
	for _, b := range []byte(allBytes()) {
		l = append(l, withBody(string([]byte{b})), withBody("ab"+string([]byte{b, b})+"cd"))
	}
	for x := 'a'; x <= 'z'; x++ {
		l = append(l, withTag(string(x)), withTag("m"+string(x)))
	}
	for n := range 100 {
		l = append(l, withAttrs(api.Attr{Key: n % 4, Val: n}))
	}
	return l
}

// mayNot is versions that may not be, each for one reason.
func mayNot() []api.Version {
	far := []int{-1, -2, -128, -1 << 40, math.MinInt, math.MinInt + 1, 1 << 14, 1 << 32, 1 << 35, 1<<32 + 1, 1<<35 + 1, math.MaxInt}
	l := []api.Version{
		withItem(0), withItem(7), withItem(128 + 1), withItem(256 + 1),
		withStamp(0, 1, 1), withStamp(5001, 1, 1), withStamp(5, 0, 1), withStamp(5, 6, 1), withStamp(5, 1, 0), withStamp(5, 1, 6), withStamp(1, 1, 2), withStamp(5000, 1, 1001), withStamp(5000, 1, 5000),
		withKeys(-1), withKeys(4), withKeys(1, 1), withKeys(1, 0), withKeys(0, 3, 2), withKeys(0, 3, 3), withKeys(0, 1, 4), withKeys(3, 0, 1), withKeys(0, 1, 2, 3), withKeys(0, 0, 0, 0, 0),
		withAttrs(api.Attr{Key: 1, Val: 100}), withAttrs(api.Attr{Key: 1, Val: -1}), withAttrs(api.Attr{Key: 0, Val: 1}, api.Attr{Key: 1, Val: 2}, api.Attr{Key: 2, Val: 100}),
		withAttrs(make([]api.Attr, 300)...),
		withTag("aaaaaaa"), withTag("A"), withTag("`"), withTag("{"), withTag(" "), withTag("abc\x00"), withTag("é"), withTag("\xff"), withTag("0"), withTag(strings.Repeat("a", 300)), withTag("a b"),
		withBody(strings.Repeat("\x00", 13)), withBody("thirteen byte"), withBody(strings.Repeat("x", 300)), withBody(strings.Repeat("x", 1<<16)), withBody("ééééééx"),
		dead("\x00"), dead("x"), dead("twelve bytes"), dead("thirteen byte"),
		{}, {Dead: true}, {Item: 1}, {S: api.Stamp{L: 1, R: 1, N: 1}}, {Tag: "a", Body: "b"},
	}
	for _, n := range far {
		l = append(l, withItem(n), withStamp(n, 1, 1), withStamp(5000, n, 1), withStamp(5000, 1, n), withKeys(n), withKeys(0, n), withAttrs(api.Attr{Key: 1, Val: n}), withAttrs(api.Attr{Key: 1, Val: 1}, api.Attr{Key: 2, Val: n}))
	}
	return l
}

// modelMay is P3.1's words.
func modelMay(v api.Version) bool {
	for _, x := range []struct{ n, least, most int }{
		{v.Item, 1, 6}, {v.S.L, 1, 5000}, {v.S.R, 1, 5}, {v.S.N, 1, min(1000, v.S.L)}, {len(v.Attrs), 0, 3}, {len(v.Tag), 0, 6}, {len(v.Body), 0, 12},
	} {
		if x.n < x.least || x.n > x.most {
			return false
		}
	}
	for i, a := range v.Attrs {
		if a.Key < 0 || a.Key > 3 || a.Val < 0 || a.Val > 99 || i > 0 && a.Key <= v.Attrs[i-1].Key {
			return false
		}
	}
	return strings.Trim(v.Tag, "abcdefghijklmnopqrstuvwxyz") == "" && !(v.Dead && v.Body != "")
}

// modelPut is the bytes of v by the words of P18.1, whether v may be or not.
func modelPut(v api.Version) []byte {
	var b []byte
	num := func(n int) { b = binary.AppendUvarint(b, uint64(n)) }
	text := func(s string) {
		num(len(s))
		b = append(b, s...)
	}
	num(v.Item)
	num(v.S.L)
	num(v.S.R)
	num(v.S.N)
	if v.Dead {
		num(1)
	} else {
		num(0)
	}
	num(len(v.Attrs))
	for _, a := range v.Attrs {
		num(a.Key)
		num(a.Val)
	}
	text(v.Tag)
	text(v.Body)
	return b
}

// modelTake is Take by the words of P18.1: what is read in whatever form is held against how it is put.
func modelTake(b []byte) (v api.Version, n int, ok bool) {
	at, bad := 0, false
	num := func() int {
		x, k := binary.Uvarint(b[min(at, len(b)):])
		if k <= 0 || x > 1<<40 {
			bad = true
			return 0
		}
		at += k
		return int(x)
	}
	text := func() string {
		long := num()
		if bad || long > len(b)-at {
			bad = true
			return ""
		}
		at += long
		return string(b[at-long : at])
	}
	v.Item, v.S.L, v.S.R, v.S.N = num(), num(), num(), num()
	v.Dead = num() != 0
	for i := num(); i > 0 && !bad; i-- {
		v.Attrs = append(v.Attrs, api.Attr{Key: num(), Val: num()})
	}
	v.Tag = text()
	v.Body = text()
	if bad || !modelMay(v) || !bytes.HasPrefix(b, modelPut(v)) || at != len(modelPut(v)) {
		return api.Version{}, 0, false
	}
	return v, at, true
}

// alike tells whether a and b are one, a row of none and no row being one.
func alike(a, b api.Version) bool {
	attrs := slices.Equal(a.Attrs, b.Attrs)
	a.Attrs, b.Attrs = nil, nil
	return attrs && reflect.DeepEqual(a, b)
}

// checkTaken holds what Take answers against the model, and against Put.
func checkTaken(t *testing.T, b []byte) bool {
	t.Helper()
	was := slices.Clone(b)
	v, n, ok := Take(b)
	wv, wn, wok := modelTake(b)
	if !alike(v, wv) || n != wn || ok != wok {
		t.Fatalf("Take(%x) = %+v %d %v, want %+v %d %v", b, v, n, ok, wv, wn, wok)
	}
	if !bytes.Equal(b, was) {
		t.Fatalf("%x is %x", was, b)
	}
	if ok && !bytes.Equal(Put(nil, v), b[:n]) {
		t.Fatalf("%x is taken as %+v, which is put as %x", b, v, Put(nil, v))
	}
	return ok
}

// checkNone: b is no version, and what stands beside the no is zero values.
func checkNone(t *testing.T, b []byte) {
	t.Helper()
	if v, n, ok := Take(b); ok || n != 0 || !reflect.DeepEqual(v, api.Version{}) {
		t.Fatalf("Take(%x) = %+v %d %v", b, v, n, ok)
	}
	checkTaken(t, b)
}

// checkBoth: v is put behind whatever was there, and taken so, whatever stands behind it.
func checkBoth(t *testing.T, v api.Version) {
	t.Helper()
	want := modelPut(v)
	for _, ahead := range []string{"", "q", "\x80", "\xff\xff", "\x01\x01\x01\x01", allBytes()} {
		if got := Put([]byte(ahead), v); string(got) != ahead+string(want) {
			t.Fatalf("Put(%x, %+v) = %x, want %x behind it", ahead, v, got, want)
		}
	}
	for _, behind := range []string{"", "\x00", "\x80", "\xff\xff\xff\xff\xff\xff", "more", string(want)} {
		got, n, ok := Take(append(slices.Clone(want), behind...))
		if !alike(got, v) || n != len(want) || !ok {
			t.Fatalf("%+v, put as %x, with %x behind: %+v %d %v", v, want, behind, got, n, ok)
		}
	}
}

func TestExample(t *testing.T) {
	v := full()
	got, n, ok := Take(Put(nil, v))
	if !reflect.DeepEqual(got, v) || n != len(Put(nil, v)) || !ok {
		t.Errorf("%+v %d %v", got, n, ok)
	}
}

func TestKnownBytes(t *testing.T) {
	for _, x := range []struct {
		v    api.Version
		want string
	}{
		{full(), "\x06\x88\x27\x05\xe8\x07\x00\x03\x00\x63\x02\x00\x03\x32\x06abmxyz\x0c\x00\xff twelve by"},
		{api.Version{Item: 1, S: api.Stamp{L: 1, R: 1, N: 1}}, "\x01\x01\x01\x01\x00\x00\x00\x00"},
		{api.Version{Item: 2, S: api.Stamp{L: 300, R: 3, N: 4}, Dead: true, Tag: "z"}, "\x02\xac\x02\x03\x04\x01\x00\x01z\x00"},
		{api.Version{Item: 3, S: api.Stamp{L: 128, R: 2, N: 127}, Attrs: []api.Attr{{Key: 1, Val: 7}}, Body: "b"}, "\x03\x80\x01\x02\x7f\x00\x01\x01\x07\x00\x01b"},
	} {
		if got := Put(nil, x.v); string(got) != x.want {
			t.Errorf("Put of %+v: %x, want %x", x.v, got, x.want)
		}
		v, n, ok := Take([]byte(x.want))
		if !alike(v, x.v) || n != len(x.want) || !ok {
			t.Errorf("Take of %x: %+v %d %v", x.want, v, n, ok)
		}
	}
}

func TestEdges(t *testing.T) {
	for _, v := range edges() {
		if !modelMay(v) {
			t.Fatalf("the model is wrong: %+v", v)
		}
		checkBoth(t, v)
	}
}

// TestEachStamp: each time and number that a stamp may have, be it of one byte or two.
func TestEachStamp(t *testing.T) {
	for l := range 5000 {
		for _, n := range []int{1, 2, 126, 127, 128, 129, 999, 1000, l, l + 1} {
			v := api.Version{Item: 1 + l%6, S: api.Stamp{L: l + 1, R: 1 + l%5, N: n}}
			put := Put(nil, v)
			got, k, ok := Take(put)
			may := 1 <= n && n <= min(l+1, 1000)
			if may && (!bytes.Equal(put, modelPut(v)) || !alike(got, v) || k != len(put) || !ok) || !may && (len(put) > 0 || ok) {
				t.Fatalf("%+v: %x, %+v %d %v", v, put, got, k, ok)
			}
		}
	}
}

// TestEachKeys: each row of up to four Keys of -1 to 4.
func TestEachKeys(t *testing.T) {
	var walk func(keys []int)
	walk = func(keys []int) {
		v := withKeys(keys...)
		if modelMay(v) {
			checkBoth(t, v)
		} else {
			checkNotPut(t, v)
		}
		if len(keys) == 4 {
			return
		}
		for key := -1; key <= 4; key++ {
			walk(append(keys[:len(keys):len(keys)], key))
		}
	}
	walk(nil)
}

// checkNotPut: nothing is put behind b, and what would have been put is no version.
func checkNotPut(t *testing.T, v api.Version) {
	t.Helper()
	for _, ahead := range []string{"", "q", "\x01\x01\x01\x01\x00\x00\x00\x00", allBytes()} {
		if got := Put([]byte(ahead), v); string(got) != ahead {
			t.Fatalf("Put(%x, %+.100v) = %x", ahead, v, got)
		}
	}
	checkNone(t, modelPut(v))
	checkNone(t, append(modelPut(v), "\x00\x00\x00\x00more"...))
}

func TestMayNot(t *testing.T) {
	for _, v := range mayNot() {
		if modelMay(v) {
			t.Fatalf("the model is wrong: %+v", v)
		}
		checkNotPut(t, v)
	}
}

func TestCutOff(t *testing.T) {
	for _, v := range edges()[:60] {
		put := Put(nil, v)
		for n := range put {
			checkNone(t, put[:n:n])
			// The rest stands in the spare room, where none looks.
			checkNone(t, put[:n])
		}
	}
	for _, b := range [][]byte{nil, {}, Put(nil, full())[:0]} {
		checkNone(t, b)
	}
}

// parts is the bytes of full, a part a row.
func parts() [][]byte {
	return [][]byte{
		{6}, {0x88, 0x27}, {5}, {0xE8, 0x07}, {0}, {3},
		{0}, {99}, {2}, {0}, {3}, {50},
		{6}, []byte("abmxyz"), {12}, []byte("\x00\xff twelve by"),
	}
}

// withPart is the bytes of full with another part at i.
func withPart(i int, part string) []byte {
	l := parts()
	l[i] = []byte(part)
	return slices.Concat(l...)
}

// TestOtherForms: a number in a form that is not its one form, at each place of a number.
func TestOtherForms(t *testing.T) {
	if !bytes.Equal(slices.Concat(parts()...), Put(nil, full())) {
		t.Fatal("the parts are not those of full")
	}
	for i, part := range parts() {
		if i == 13 || i == 15 {
			continue
		}
		long := slices.Clone(part)
		for len(long) < 8 {
			long[len(long)-1] |= 0x80
			long = append(long, 0)
			checkNone(t, withPart(i, string(long)))
		}
		for _, none := range []string{"", "\x80", "\x80\x80\x80\x80\x80", "\xff\xff\xff\xff\xff\x01", "\x80\x80\x80\x80\x80\x80\x80\x80\x80\x01", "\x80\x00", "\x81\x80\x80\x00"} {
			checkNone(t, append(slices.Concat(parts()[:i]...), none...))
			if none != "" {
				checkNone(t, withPart(i, none))
			}
		}
	}
}

// TestEachNumber: at each place of a number each of up to 16384, and those far beyond it.
func TestEachNumber(t *testing.T) {
	far := []int{1 << 14, 1 << 16, 1<<16 + 1, 1 << 21, 1 << 28, math.MaxInt32, 1 << 31, 1<<32 - 1, 1 << 32, 1<<32 + 1, 1<<32 + 3, 1<<32 + 6, 1<<33 + 5, 1<<34 + 2, 1<<35 - 1}
	for i := range parts() {
		if i == 13 || i == 15 {
			continue
		}
		for n := range 16384 {
			checkTaken(t, withPart(i, string(binary.AppendUvarint(nil, uint64(n)))))
		}
		for _, n := range far {
			checkNone(t, withPart(i, string(binary.AppendUvarint(nil, uint64(n)))))
		}
	}
}

func TestNeitherDeadNorNot(t *testing.T) {
	v := api.Version{Item: 2, S: api.Stamp{L: 3, R: 2, N: 1}, Tag: "a"}
	for n := range 1000 {
		b := slices.Concat([]byte{2, 3, 2, 1}, binary.AppendUvarint(nil, uint64(n)), []byte{0, 1, 'a', 0})
		if n > 1 {
			checkNone(t, b)
			continue
		}
		v.Dead = n == 1
		if got, k, ok := Take(b); !alike(got, v) || k != 9 || !ok {
			t.Errorf("Dead %d: %+v %d %v", n, got, k, ok)
		}
	}
}

// TestMoreAttrsThanMayBe: with as many bytes as they need, with fewer, and with none.
func TestMoreAttrsThanMayBe(t *testing.T) {
	for _, many := range []int{4, 5, 6, 7, 127, 128, 129, 1000, 1 << 14, 1 << 20, 1<<31 - 1, 1 << 31, 1 << 32, 1<<32 + 1, 1<<32 + 3, 1 << 34, 1<<35 - 1} {
		b := binary.AppendUvarint([]byte{1, 1, 1, 1, 0}, uint64(many))
		for _, behind := range []string{"", "\x00", "\x00\x00\x01\x00\x02\x00\x00\x00", "\x00\x00\x01\x00\x02\x00\x03\x00\x00\x00", strings.Repeat("\x00", 4000), strings.Repeat("\x01\x02", 3000)} {
			checkNone(t, append(slices.Clone(b), behind...))
		}
	}
	// Fewer than may be, but more than there are bytes for.
	for many := 1; many <= 3; many++ {
		b := []byte{1, 1, 1, 1, 0, byte(many)}
		for n := range 2 * many {
			checkNone(t, append(slices.Clone(b), "\x00\x07\x01\x07\x02\x07"[:n]...))
		}
	}
}

// TestNoText: a length that is more than what is there, or more than may be.
func TestNoText(t *testing.T) {
	head := "\x01\x01\x01\x01\x00\x00"
	for _, s := range []string{
		"", "\x01", "\x02a", "\x06aaaaa", "\x07aaaaaa", "\x01a", "\x06aaaaaa", "\x07aaaaaaa\x00", "\x80\x01" + strings.Repeat("a", 128) + "\x00", "\xff\xff\xff\xff\x7faaa\x00", "\x80\x80\x80\x80\x10aaa\x00",
		"\x81\x00a\x00", "\x80\x00\x00", "\x00\x80\x00", "\x00\x81\x00a", "\x01A\x00", "\x02a\x00\x00", "\x00\x01", "\x00\x0celeven byte", "\x00\x0dthirteen byte", "\x00\x80\x01" + strings.Repeat("a", 128), "\x00\xff\xff\xff\xff\x7fa", "\x00\x80\x80\x80\x80\x10a", "\x00\xff\xff\xff\xff\xff\x01a",
	} {
		checkNone(t, []byte(head+s))
	}
	for _, s := range []string{"\x00\x00", "\x01a\x01A", "\x06aaaaaa\x0celeven bytes"} {
		if !checkTaken(t, []byte(head+s)) {
			t.Errorf("%q is none", s)
		}
	}
}

// TestTurned: each byte of a version turned into each other one.
func TestTurned(t *testing.T) {
	for _, v := range []api.Version{full(), dead(""), {Item: 1, S: api.Stamp{L: 1, R: 1, N: 1}}, {Item: 2, S: api.Stamp{L: 300, R: 2, N: 200}, Attrs: []api.Attr{{Key: 1, Val: 5}}, Body: "\x01\x02"}} {
		put := Put(nil, v)
		for i := range put {
			for x := range 256 {
				b := slices.Clone(put)
				b[i] = byte(x)
				checkTaken(t, b)
				checkTaken(t, append(b, "\x00\x00\x00\x00\x00\x00\x00\x00\x00\x00\x00\x00\x00\x00\x00"...))
			}
			checkTaken(t, slices.Delete(slices.Clone(put), i, i+1))
			checkTaken(t, slices.Insert(slices.Clone(put), i, 0))
			checkTaken(t, slices.Insert(slices.Clone(put), i, 0x80))
		}
	}
}

func TestVersionsByChance(t *testing.T) {
	c := chance(18)
	for range 20000 {
		v := c.version()
		if !modelMay(v) {
			t.Fatalf("the model is wrong: %+v", v)
		}
		put := Put(nil, v)
		if !bytes.Equal(put, modelPut(v)) {
			t.Fatalf("Put of %+v: %x", v, put)
		}
		got, n, ok := Take(append(slices.Clone(put), c.row(c.below(20))...))
		if !alike(got, v) || n != len(put) || !ok {
			t.Fatalf("%+v, put as %x: %+v %d %v", v, put, got, n, ok)
		}
		checkNone(t, put[:c.below(len(put))])
		for range 1 + c.below(3) {
			put[c.below(len(put))] ^= 1 << c.below(8)
		}
		checkTaken(t, put)
	}
}

// TestRowsByChance: bytes of which many are near to a version.
func TestRowsByChance(t *testing.T) {
	c := chance(19)
	taken := 0
	for range 300000 {
		b := c.row(c.below(24))
		for i := range b {
			if c.below(8) > 0 {
				b[i] = byte(c.below(4))
			}
		}
		if checkTaken(t, b) {
			taken++
		}
	}
	if taken < 300 {
		t.Errorf("%d alone are versions", taken)
	}
}

// TestEachShortRow: each row of eight of the least numbers.
func TestEachShortRow(t *testing.T) {
	var row [8]byte
	for x := range 1 << 16 {
		for i := range row {
			row[i] = byte(x >> (2 * i) & 3)
		}
		checkTaken(t, row[:])
	}
}

// TestOneBehindTheOther: what is put one behind the other is taken so, to the last byte.
func TestOneBehindTheOther(t *testing.T) {
	c := chance(3)
	for range 500 {
		var b []byte
		var l []api.Version
		for range c.below(9) {
			l = append(l, c.version())
			b = Put(b, l[len(l)-1])
			b = Put(b, api.Version{})
		}
		for _, want := range l {
			v, n, ok := Take(b)
			if !alike(v, want) || !ok {
				t.Fatalf("%+v %v, want %+v", v, ok, want)
			}
			b = b[n:]
		}
		if len(b) > 0 {
			t.Fatalf("%x is left", b)
		}
	}
}

func TestNilAndEmpty(t *testing.T) {
	for _, v := range append(edges()[:60], api.Version{}, withItem(7)) {
		want := Put(nil, v)
		for _, b := range [][]byte{{}, make([]byte, 0, 100), []byte("spare")[:0]} {
			if got := Put(b, v); !bytes.Equal(got, want) {
				t.Errorf("%x, to nil %x", got, want)
			}
		}
		if len(v.Attrs) > 0 {
			continue
		}
		v.Attrs = nil
		none := Put([]byte("q"), v)
		for _, l := range [][]api.Attr{{}, make([]api.Attr, 3)[:0]} {
			v.Attrs = l
			if got := Put([]byte("q"), v); !bytes.Equal(got, none) {
				t.Errorf("%x, of nil %x", got, none)
			}
		}
	}
}

// overwrite turns each byte of b, its spare room too.
func overwrite(b []byte) {
	b = b[:cap(b)]
	for i := range b {
		b[i] ^= 0xFF
	}
}

// TestPutIsNewMemory: neither b nor its spare room is changed, and what is told shares nothing with it or with what was told ahead.
func TestPutIsNewMemory(t *testing.T) {
	vs := []api.Version{full(), dead(""), {Item: 1, S: api.Stamp{L: 1, R: 1, N: 1}}, {}, withTag("A"), withBody(strings.Repeat("x", 13))}
	for _, v := range vs {
		for n := range 5 {
			for _, spare := range []int{0, 1, 7, 8, 9, 33, 34, 35, 400} {
				all := bytes.Repeat([]byte("0123456789"), 60)[:n+spare]
				was := slices.Clone(all)
				b := all[:n]
				first := Put(b, v)
				told := slices.Clone(first)
				for _, other := range vs {
					overwrite(Put(b, other))
				}
				if !bytes.Equal(all, was) || !bytes.Equal(first, told) {
					t.Fatalf("%+v behind %d bytes, %d spare: %x is %x, %x is %x", v, n, spare, was, all, told, first)
				}
				second := Put(first, v)
				overwrite(second)
				overwrite(first)
				if !bytes.Equal(all, was) {
					t.Fatalf("%+v behind %d bytes, %d spare: %x is %x", v, n, spare, was, all)
				}
				again := Put(b, v)
				overwrite(all)
				if !bytes.Equal(again, told) {
					t.Fatalf("%+v behind %d bytes, %d spare: %x is %x", v, n, spare, told, again)
				}
			}
		}
	}
}

// TestVersionIsLeftAsItWas: its Attrs, and their spare room.
func TestVersionIsLeftAsItWas(t *testing.T) {
	for _, v := range append(edges()[:60], mayNot()...) {
		all := append(slices.Clone(v.Attrs), api.Attr{Key: 7, Val: 7}, api.Attr{Key: 8, Val: 8})
		was := slices.Clone(all)
		v.Attrs = all[:len(v.Attrs)]
		kept := v
		put := Put([]byte("q"), v)
		told := slices.Clone(put)
		if !slices.Equal(all, was) || !reflect.DeepEqual(v, kept) {
			t.Fatalf("%+v is %+v", was, all)
		}
		clear(all)
		if !bytes.Equal(put, told) {
			t.Fatalf("%x is %x", told, put)
		}
		overwrite(put)
	}
}

// TestTakenIsNewMemory: neither the Attrs nor the texts of what is taken lie in b or in what was taken ahead.
func TestTakenIsNewMemory(t *testing.T) {
	for _, v := range edges()[:60] {
		b := append(Put(nil, v), "more"...)
		first, _, _ := Take(b)
		second, _, _ := Take(b)
		overwrite(b)
		for i := range second.Attrs[:cap(second.Attrs)] {
			second.Attrs[:cap(second.Attrs)][i] = api.Attr{Key: 77, Val: 77}
		}
		if !alike(first, v) {
			t.Fatalf("%+v, want %+v", first, v)
		}
		// Go has each text of one byte once.
		if len(v.Tag) > 1 && unsafe.StringData(first.Tag) == unsafe.StringData(second.Tag) || len(v.Body) > 1 && unsafe.StringData(first.Body) == unsafe.StringData(second.Body) {
			t.Fatalf("%+v: a text is told twice in one place", v)
		}
	}
}

func TestWhyIsWrapped(t *testing.T) {
	for s, want := range map[string]string{
		"":                                        "Item: no number",
		"\x01":                                    "L: no number",
		"\x01\x80\x00\x01\x01\x00\x00\x00\x00":    "L: no number",
		"\x01\x01":                                "R: no number",
		"\x01\x01\x01":                            "N: no number",
		"\x01\x01\x01\x01":                        "Dead: no number",
		"\x01\x01\x01\x01\x02":                    "Dead: neither 0 nor 1",
		"\x01\x01\x01\x01\x02\x00\x00\x00":        "Dead: neither 0 nor 1",
		"\x01\x01\x01\x01\x00":                    "Attrs: no number",
		"\x01\x01\x01\x01\x00\x04":                "Attrs: too many",
		"\x01\x01\x01\x01\x00\x02\x00\x00\x80":    "Key: no number",
		"\x01\x01\x01\x01\x00\x02\x00\x00\x01":    "Val: no number",
		"\x01\x01\x01\x01\x00\x00\x02a":           "Tag: no text",
		"\x01\x01\x01\x01\x00\x00\x01a\x02a":      "Body: no text",
		"\x01\x01\x01\x01\x00\x00\x01A\x00":       "no version that may be",
		"\x07\x01\x01\x01\x00\x00\x00\x00behind":  "no version that may be",
		"\x01\x01\x01\x01\x01\x00\x00\x01bbehind": "no version that may be",
	} {
		_, _, err := version([]byte(s))
		var f fault
		var in inPart
		if !errors.As(err, &f) || errors.As(err, &in) != strings.Contains(want, ": ") || err.Error() != want {
			t.Errorf("%x: %v, want %v", s, err, want)
		}
		checkNone(t, []byte(s))
	}
	if _, _, err := version(Put(nil, full())); err != nil {
		t.Error(err)
	}
}

func TestSameEachTime(t *testing.T) {
	c := chance(5)
	rows := [][]byte{nil, Put(nil, full()), Put(nil, full())[:30], c.row(30), append(Put(nil, dead("")), c.row(400)...)}
	vs := []api.Version{full(), dead(""), {}, withKeys(1, 1), c.version(), c.version()}
	var all sync.WaitGroup
	for range 8 {
		all.Go(func() {
			for range 50 {
				checkSame(t, rows, vs)
			}
		})
	}
	all.Wait()
}

func checkSame(t *testing.T, rows [][]byte, vs []api.Version) {
	for _, b := range rows {
		v, n, ok := Take(b)
		if wv, wn, wok := modelTake(b); !alike(v, wv) || n != wn || ok != wok {
			t.Errorf("Take(%x) = %+v %d %v", b, v, n, ok)
		}
		for _, v := range vs {
			want := slices.Clone(b)
			if modelMay(v) {
				want = append(want, modelPut(v)...)
			}
			if got := Put(b, v); !bytes.Equal(got, want) {
				t.Errorf("Put(%x, %+v) = %x", b, v, got)
			}
		}
	}
}
