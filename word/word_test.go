package word

import (
	"regexp"
	"slices"
	"strconv"
	"strings"
	"testing"
	"unsafe"

	"cardamom/api"
)

func isName(s string, at int) Word { return Word{Kind: 1, S: s, At: at} }

func isNumber(n, at int) Word { return Word{Kind: 2, N: n, At: at} }

func isMark(s string, at int) Word { return Word{Kind: 3, S: s, At: at} }

func wantWords(t *testing.T, s string, want ...Word) {
	t.Helper()
	if l, at, ok := All(s); !ok || at != 0 || !slices.Equal(l, want) {
		t.Errorf("All(%q) = %v, %d, %v", s, l, at, ok)
	}
}

func wantNo(t *testing.T, s string, want int) {
	t.Helper()
	if l, at, ok := All(s); ok || at != want || len(l) != 0 {
		t.Errorf("All(%.90q) = %v, %d, %v, not at %d", s, l, at, ok, want)
	}
}

func TestWords(t *testing.T) {
	wantWords(t, "@1=5", isMark("@", 0), isNumber(1, 1), isMark("=", 2), isNumber(5, 3))
	wantWords(t, "^ab&!@1=5", isMark("^", 0), isName("ab", 1), isMark("&", 3), isMark("!", 4), isMark("@", 5), isNumber(1, 6), isMark("=", 7), isNumber(5, 8))
	wantWords(t, "(@3:0-99|*)", isMark("(", 0), isMark("@", 1), isNumber(3, 2), isMark(":", 3), isNumber(0, 4), isMark("-", 5), isNumber(99, 6), isMark("|", 8), isMark("*", 9), isMark(")", 10))
	wantWords(t, "ab12cd3e", isName("ab", 0), isNumber(12, 2), isName("cd", 4), isNumber(3, 6), isName("e", 7))
	// What makes no filter is words all the same.
	wantWords(t, ")(==", isMark(")", 0), isMark("(", 1), isMark("=", 2), isMark("=", 3))
}

func TestBlanksArePassedOver(t *testing.T) {
	wantWords(t, "")
	wantWords(t, " ")
	wantWords(t, strings.Repeat(" ", api.MaxText))
	wantWords(t, "  a  ", isName("a", 2))
	wantWords(t, "a b", isName("a", 0), isName("b", 2))
	wantWords(t, "abcd efgh", isName("abcd", 0), isName("efgh", 5))
	wantWords(t, "12 3", isNumber(12, 0), isNumber(3, 3))
	wantWords(t, " * & * ", isMark("*", 1), isMark("&", 3), isMark("*", 5))
}

func TestNamesAtEachLimit(t *testing.T) {
	const letters = "azbymn"
	for size := 1; size <= api.MaxTag; size++ {
		wantWords(t, letters[:size], isName(letters[:size], 0))
	}
	for size := api.MaxTag + 1; size <= api.MaxText; size++ {
		wantNo(t, strings.Repeat("q", size), 0)
	}
	wantWords(t, "*abcdef1", isMark("*", 0), isName("abcdef", 1), isNumber(1, 7))
	wantNo(t, "*abcdefg1", 1)
	wantNo(t, "a abcdefg", 2)
	wantNo(t, "1abcdefghijkl*", 1)
	wantWords(t, "abcdef abcdef", isName("abcdef", 0), isName("abcdef", 7))
}

func TestNumbersAtEachLimit(t *testing.T) {
	for n := range 100 {
		text := strconv.Itoa(n)
		wantWords(t, text, isNumber(n, 0))
		if n < 10 {
			wantWords(t, "0"+text, isNumber(n, 0))
		}
	}
	for size := 3; size <= api.MaxText; size++ {
		wantNo(t, strings.Repeat("0", size), 0)
	}
	wantNo(t, "100", 0)
	wantNo(t, "007", 0)
	wantNo(t, "=123=", 1)
	wantNo(t, "12 345", 3)
	wantNo(t, "ab1234", 2)
	wantWords(t, "-5", isMark("-", 0), isNumber(5, 1))
}

// Each byte, alone, in front of words, between them and behind them.
func TestEachByte(t *testing.T) {
	for b := range 256 {
		c := string([]byte{byte(b)})
		var own []Word
		switch {
		case c == " ":
		case 'a' <= b && b <= 'z':
			own = []Word{isName(c, 0)}
		case '0' <= b && b <= '9':
			own = []Word{isNumber(b-'0', 0)}
		case slices.Contains([]string{"(", ")", "!", "&", "|", "*", "=", ":", "-", "@", "^"}, c):
			own = []Word{isMark(c, 0)}
		default:
			for at, s := range []string{c, "*" + c, "ab" + c, " 1*" + c + "&", "ab12" + c + "ab"} {
				wantNo(t, s, at)
			}
			continue
		}
		wantWords(t, c, own...)
		between := []Word{isMark("*", 0)}
		for _, w := range own {
			w.At = 1
			between = append(between, w)
		}
		wantWords(t, "*"+c, between...)
		wantWords(t, "*"+c+"*", append(between, isMark("*", 2))...)
	}
}

func TestTheFirstFaultIsTold(t *testing.T) {
	wantNo(t, "* 12345 #", 2)
	wantNo(t, "# 12345", 0)
	wantNo(t, "abcdefg 123", 0)
	wantNo(t, "ab 123 abcdefg", 3)
	wantNo(t, "a A B", 2)
	wantNo(t, "é", 0)
	wantNo(t, "aé", 1)
	wantNo(t, "a\x00", 1)
	wantNo(t, "a.b", 1)
	wantNo(t, "*\n", 1)
}

func TestWordsAtTheirLimit(t *testing.T) {
	for _, one := range []string{"*", "a)", "7!", "a7"} {
		most := strings.Repeat(one, api.MaxWords/len(one))
		if l, at, ok := All(most); !ok || at != 0 || len(l) != api.MaxWords {
			t.Errorf("%q: %d words, %d, %v", most, len(l), at, ok)
		}
		if l, _, ok := All(most[1:]); !ok || len(l) != api.MaxWords-1 {
			t.Errorf("%q: %d words, %v", most[1:], len(l), ok)
		}
		if l, _, ok := All(most + strings.Repeat(" ", 20)); !ok || len(l) != api.MaxWords {
			t.Errorf("%q and blanks: %d words, %v", most, len(l), ok)
		}
		wantNo(t, most+"*", 60)
		wantNo(t, most+"  12  ", 62)
		wantNo(t, most+" abcdef", 61)
		wantNo(t, most+"**********", 60)
		// Read from the front, the word that is more is met ahead of what begins none behind it.
		wantNo(t, most+"*#", 60)
		wantNo(t, most+" #*", 61)
		wantNo(t, most+" 123", 61)
	}
	// Words are counted, not bytes.
	if l, _, ok := All(strings.Repeat("ab1", 26)); !ok || len(l) != 52 {
		t.Errorf("%d words, %v", len(l), ok)
	}
}

func TestTextsAtTheirLimit(t *testing.T) {
	for _, size := range []int{api.MaxText - 1, api.MaxText} {
		wantWords(t, strings.Repeat(" ", size-1)+"*", isMark("*", size-1))
		wantWords(t, "ab"+strings.Repeat(" ", size-2), isName("ab", 0))
		wantNo(t, strings.Repeat(" ", size-1)+"#", size-1)
	}
	for _, size := range []int{api.MaxText + 1, api.MaxText + 2, 1000, 1 << 20} {
		for _, s := range []string{" ", "*", "a", "1", "#", "ab ", " #", " *", "* 123", "\xff"} {
			wantNo(t, strings.Repeat(s, size)[:size], 0)
		}
		wantNo(t, "* #"+strings.Repeat(" ", size-3), 0)
		wantNo(t, strings.Repeat(" ", size-1)+"#", 0)
	}
}

// modelWord is what stands at the front of a text, by the chapter's words, however long it is.
var modelWord = regexp.MustCompile(`^(?:([a-z]+)|([0-9]+)|([()!&|*=:@^-]))`)

// model tells what All must, read by an expression instead.
func model(s string) (l []Word, at int, ok bool) {
	for at < len(s) {
		if s[at] == ' ' {
			at++
			continue
		}
		m := modelWord.FindStringSubmatch(s[at:])
		if m == nil || len(m[1]) > 6 || len(m[2]) > 2 || len(l) == 60 {
			return nil, at, false
		}
		n, _ := strconv.Atoi(m[2])
		w := Word{Kind: 3, S: m[1] + m[3], N: n, At: at}
		if m[1] != "" {
			w.Kind = 1
		} else if m[2] != "" {
			w.Kind = 2
		}
		l = append(l, w)
		at += len(m[0])
	}
	return l, 0, true
}

func againstModel(t *testing.T, s string) {
	t.Helper()
	l, at, ok := All(s)
	wl, wat, wok := model(s)
	if at != wat || ok != wok || !slices.Equal(l, wl) {
		t.Fatalf("All(%q) = %v, %d, %v, not %v, %d, %v", s, l, at, ok, wl, wat, wok)
	}
}

// All texts of some bytes, up to a length.
func TestEachShortText(t *testing.T) {
	var grow func(s, bytes string, left int)
	grow = func(s, bytes string, left int) {
		againstModel(t, s)
		if left == 0 {
			return
		}
		for _, b := range bytes {
			grow(s+string(b), bytes, left-1)
		}
	}
	grow("", "az09 *#", 5)
	grow("", "a1 ", 9)
	grow("", "()!&|*=:-@^ .", 3)
}

// Pieces laid one behind the other, by a rule that goes through many rows of them.
func TestLongTexts(t *testing.T) {
	pieces := []string{"*", " ", "a", "12", "(", "xyz", "  ", "9", "^", "abcdef", "-", "0", ")", "bc ", "=", "123", "abcdefg", "#"}
	row := uint32(1)
	for range 20000 {
		s := ""
		row = row*1664525 + 1013904223
		// Few of the rows have pieces that begin none, so that many are read to their ends.
		some := pieces
		if row>>28 > 2 {
			some = pieces[:len(pieces)-3]
		}
		if row>>28 > 9 {
			some = []string{"*", "&", "1!", " "}
		}
		for size := int(row >> 16 % (api.MaxText + 1)); len(s) < size; {
			row = row*1664525 + 1013904223
			s += some[int(row>>16)%len(some)]
		}
		againstModel(t, s[:min(len(s), api.MaxText)])
	}
}

func textOf(w Word) string {
	if w.Kind == 2 {
		return strconv.Itoa(w.N)
	}
	return w.S
}

// Words are read in one way: written one behind the other with blanks between them they are the same words.
func TestWordsAreReadAgain(t *testing.T) {
	for _, s := range []string{"", "@1=5", "^ab&!@1=5", "(@3:0-99|*)&!^abcdef", "ab12cd3e", "0 00 09 10"} {
		l, _, ok := All(s)
		if !ok {
			t.Fatalf("%q: no", s)
		}
		for _, blanks := range []string{" ", "   "} {
			text := blanks
			var want []Word
			for _, w := range l {
				w.At = len(text)
				want = append(want, w)
				text += textOf(w) + blanks
			}
			wantWords(t, text, want...)
		}
	}
}

func TestTheSameTextTellsTheSame(t *testing.T) {
	for _, s := range []string{"^ab & !(x|*)", "a #", ""} {
		l, at, ok := All(s)
		// What was told is the caller's own: a change of it is seen nowhere else.
		kept := slices.Clone(l)
		for i := range l {
			l[i] = Word{}
		}
		if again, at2, ok2 := All(s); at != at2 || ok != ok2 || !slices.Equal(again, kept) {
			t.Errorf("%q: %v, %d, %v", s, again, at2, ok2)
		}
	}
}

func TestWhatIsToldIsNewMemory(t *testing.T) {
	s := strings.Clone("^abcdef&!(xyz|*)&ab")
	from := uintptr(unsafe.Pointer(unsafe.StringData(s)))
	l, _, _ := All(s)
	if len(l) != 11 {
		t.Fatalf("%d words", len(l))
	}
	for _, w := range l {
		if p := uintptr(unsafe.Pointer(unsafe.StringData(w.S))); from <= p && p < from+uintptr(len(s)) {
			t.Errorf("%v lies in the text", w)
		}
	}
}
