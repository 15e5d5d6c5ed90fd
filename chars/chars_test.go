package chars

import (
	"math"
	"strings"
	"testing"

	"tailwater/api"
)

// The tests have the chapter's lists for themselves, so that a slip in the lists of the package is seen.

const allSymbols = "( ) * + - < <= << > >= >> = !="

const allWords = "select count sum min max from union join where window tumble slide every session " +
	"by key late drop side and or not a b c d k t v"

// set returns the parts of a list that blanks separate.
func set(list string) map[string]bool {
	m := map[string]bool{}
	for _, s := range strings.Fields(list) {
		m[s] = true
	}
	return m
}

// everyByte returns the 256 texts of one byte.
func everyByte() []string {
	l := []string{}
	for c := range 256 {
		l = append(l, string([]byte{byte(c)}))
	}
	return l
}

// wantedSymbol returns how many bytes the longest symbol at an index has.
func wantedSymbol(s string, at int) int {
	n := 0
	for symbol := range set(allSymbols) {
		if strings.HasPrefix(s[at:], symbol) {
			n = max(n, len(symbol))
		}
	}
	return n
}

// checkSymbol compares Symbol with the chapter, at an index that is in a text.
func checkSymbol(t *testing.T, s string, at, want int) {
	t.Helper()
	if n, e := Symbol(s, at); n != want || e != api.OK {
		t.Errorf("Symbol(%q, %d) = %d, %d; want %d", s, at, n, e, want)
	}
}

// checkWord compares Word with the chapter.
func checkWord(t *testing.T, s string, want bool) {
	t.Helper()
	if Word(s) != want {
		t.Errorf("Word(%q) = %v; want %v", s, !want, want)
	}
}

// P2.1: every byte, by kinds that are written out.
func TestKindOfEachByte(t *testing.T) {
	kinds := map[byte]uint8{32: api.ChBlank, 10: api.ChBlank}
	for _, c := range []byte("0123456789") {
		kinds[c] = api.ChDigit
	}
	for _, c := range []byte("abcdefghijklmnopqrstuvwxyz") {
		kinds[c] = api.ChLetter
	}
	for _, c := range []byte("()*+-<=>!") {
		kinds[c] = api.ChSymbol
	}
	for c := range 256 {
		if k, w := Kind(byte(c)), kinds[byte(c)]; k != w {
			t.Errorf("Kind(%d) = %d; want %d", c, k, w)
		}
	}
}

// P2.1: the examples of the chapter, the numbers of the kinds, and the bytes beside each range.
func TestKindAtTheEdges(t *testing.T) {
	for _, x := range []struct {
		c    byte
		want uint8
	}{
		{'<', 4}, {'A', 0}, {'Z', 0}, {'/', 0}, {'0', 2}, {'9', 2}, {':', 0}, {'`', 0}, {'a', 3}, {'z', 3}, {'{', 0},
		{' ', 1}, {'\n', 1}, {'\t', 0}, {'\r', 0}, {9, 0}, {11, 0}, {31, 0}, {0, 0}, {127, 0}, {128, 0}, {160, 0}, {255, 0},
		{'!', 4}, {'"', 0}, {'\'', 0}, {'(', 4}, {')', 4}, {'*', 4}, {'+', 4}, {',', 0}, {'-', 4}, {'.', 0},
		{';', 0}, {'=', 4}, {'>', 4}, {'?', 0}, {'_', 0}, {'@', 0}, {'[', 0}, {'&', 0}, {'|', 0}, {'%', 0}, {'^', 0}, {'~', 0},
	} {
		if k := Kind(x.c); k != x.want {
			t.Errorf("Kind(%q) = %d; want %d", x.c, k, x.want)
		}
	}
}

// P2.2: the examples of the chapter, and the longest symbol where a shorter one stands in front.
func TestSymbolGivesTheLongest(t *testing.T) {
	for _, x := range []struct {
		s        string
		at, want int
	}{
		{"a<=b", 1, 2}, {"=<", 0, 1}, {"!a", 0, 0}, {"a<=b", 0, 0}, {"a<=b", 2, 1}, {"a<=b", 3, 0}, {"a<=b", 4, 0},
		{"(", 0, 1}, {")", 0, 1}, {"*", 0, 1}, {"+", 0, 1}, {"-", 0, 1}, {"<", 0, 1}, {">", 0, 1}, {"=", 0, 1},
		{"<=", 0, 2}, {"<<", 0, 2}, {">=", 0, 2}, {">>", 0, 2}, {"!=", 0, 2}, {"!", 0, 0},
		{"<>", 0, 1}, {"><", 0, 1}, {"==", 0, 1}, {"=>", 0, 1}, {"=!", 0, 1}, {"!!", 0, 0}, {"!<", 0, 0}, {"<!", 0, 1}, {">!", 0, 1},
		{"<<=", 0, 2}, {"<<=", 1, 2}, {"<<=", 2, 1}, {"<<<", 0, 2}, {"<<<", 1, 2}, {"<<<", 2, 1}, {">>>", 0, 2}, {">>=", 1, 2},
		{"!!=", 0, 0}, {"!!=", 1, 2}, {"!==", 0, 2}, {"!==", 1, 1}, {"<==", 0, 2}, {"<==", 1, 1},
		{"< =", 0, 1}, {"! =", 0, 0}, {"<\n=", 0, 1}, {" <=", 0, 0}, {" <=", 1, 2}, {"\n(", 0, 0},
		{"()", 0, 1}, {"**", 0, 1}, {"++", 0, 1}, {"--", 0, 1}, {"-1", 0, 1}, {"12", 0, 0}, {"window", 0, 0},
		{"/", 0, 0}, {"&&", 0, 0}, {"\x00", 0, 0}, {"\xff", 0, 0}, {"\xe2\x89\xa4", 0, 0}, {"<\xff", 0, 1}, {"\xff<=", 1, 2},
	} {
		checkSymbol(t, x.s, x.at, x.want)
	}
}

// P2.2: every text of one or two bytes, at every place.
func TestSymbolOfEachPairOfBytes(t *testing.T) {
	all := set(allSymbols)
	l := everyByte()
	one := map[string]int{}
	for _, c := range l {
		if all[c] {
			one[c] = 1
		}
		checkSymbol(t, c, 0, one[c])
		checkSymbol(t, c, 1, 0)
	}
	for _, c := range l {
		for _, d := range l {
			want := one[c]
			if all[c+d] {
				want = 2
			}
			checkSymbol(t, c+d, 0, want)
			checkSymbol(t, c+d, 1, one[d])
			checkSymbol(t, c+d, 2, 0)
		}
	}
}

// P2.2: at the end of a text nothing begins, nor does a symbol that would go on behind it.
func TestSymbolAtTheEnds(t *testing.T) {
	checkSymbol(t, "", 0, 0)
	for symbol := range set(allSymbols) {
		for _, front := range []string{"", "a", "1", " ", "(", "!", "<", "\x00", "sum "} {
			s := front + symbol
			checkSymbol(t, s, len(front), len(symbol))
			checkSymbol(t, s, len(s), 0)
			first := s[:len(front)+1]
			checkSymbol(t, first, len(front), wantedSymbol(symbol[:1], 0))
		}
	}
}

// P2.2, and R1: places outside a text, with nothing beside the error.
func TestSymbolRefusesOtherPlaces(t *testing.T) {
	for _, s := range []string{"", "<", "<=", "a<=b", "!", "ab", "\xff", strings.Repeat("<", api.MaxText), strings.Repeat("<", api.MaxText+1)} {
		for _, at := range []int{
			-1, -2, -len(s) - 1, len(s) + 1, len(s) + 2, 2*len(s) + 1,
			math.MinInt, math.MinInt + 1, math.MaxInt - 1, math.MaxInt, math.MinInt32, math.MaxInt32 + 1, 1 << 32, -1 << 32, 1<<32 + 1,
		} {
			if n, e := Symbol(s, at); n != 0 || e != api.ErrArg {
				t.Errorf("Symbol of %d bytes at %d = %d, %d; want error %d", len(s), at, n, e, api.ErrArg)
			}
		}
	}
}

// P2.2: texts of the greatest length of a query, of one byte more, and much longer ones, are texts like others.
func TestSymbolOfLongTexts(t *testing.T) {
	for _, length := range []int{api.MaxText - 1, api.MaxText, api.MaxText + 1, 1 << 16} {
		for _, part := range []string{"<", "<=", "!", "!=", "a<=b", "(1) ", "=<>>!=", "\xff>"} {
			s := strings.Repeat(part, length)[:length]
			for at := range length {
				if at > 500 && at < length-500 {
					continue
				}
				checkSymbol(t, s, at, wantedSymbol(s, at))
			}
			checkSymbol(t, s, length, 0)
		}
	}
}

// P2.3: the examples of the chapter, every word, and what is none.
func TestWordKnowsTheWords(t *testing.T) {
	all := set(allWords)
	if len(all) != 29 {
		t.Fatalf("the test has %d words", len(all))
	}
	for word := range all {
		checkWord(t, word, true)
		checkWord(t, strings.Clone(word), true)
	}
	for _, s := range []string{
		"", " ", "\n", "windows", "windo", "indow", "Window", "WINDOW", "window ", " window", "win dow", "window\n", "window\x00", "\x00window",
		"e", "f", "g", "i", "j", "l", "m", "n", "o", "u", "w", "z", "A", "T", "V", "K", "aa", "ab", "bb", "kk", "tt", "vv", "abcd", "ktv",
		"avg", "as", "on", "is", "in", "if", "xor", "true", "false", "group", "order", "keys", "time", "value", "number", "mark", "hop", "sliding", "tumbling",
		"1", "12", "(", "<=", "!=", "sum(v)", "count(*)", "select count", "by key", "not a", "a,b", "\xff", "s\xc3\xbcm", "\xd0\xb0",
		allWords, strings.ReplaceAll(allWords, " ", ""), strings.ReplaceAll(allSymbols, " ", ""),
	} {
		checkWord(t, s, false)
	}
}

// P2.3: every text of one or two bytes.
func TestWordOfEachPairOfBytes(t *testing.T) {
	all := set(allWords)
	l := everyByte()
	for _, c := range l {
		checkWord(t, c, all[c])
		for _, d := range l {
			checkWord(t, c+d, all[c+d])
		}
	}
}

// P2.3: what is nearly a word: with a byte put in, taken away or changed, each one at each place, with two of them changed round, and words put together.
func TestWordRefusesWhatIsNearlyOne(t *testing.T) {
	all := set(allWords)
	l := everyByte()
	for word := range all {
		for at := range len(word) + 1 {
			front, back := word[:at], word[at:]
			checkWord(t, front, all[front])
			checkWord(t, back, all[back])
			checkWord(t, back+front, all[back+front])
			for _, c := range l {
				checkWord(t, front+c+back, all[front+c+back])
				if back != "" {
					checkWord(t, front+c+back[1:], all[front+c+back[1:]])
				}
			}
			if back != "" {
				checkWord(t, front+back[1:], all[front+back[1:]])
				checkWord(t, front+strings.ToUpper(back[:1])+back[1:], false)
			}
			if len(back) > 1 {
				turned := front + back[1:2] + back[:1] + back[2:]
				checkWord(t, turned, all[turned])
			}
		}
		checkWord(t, strings.ToUpper(word), false)
		for other := range all {
			checkWord(t, word+other, all[word+other])
			checkWord(t, word+" "+other, false)
		}
	}
}

// P2.3: texts of the greatest length of a query, of one byte more, and much longer ones.
func TestWordOfLongTexts(t *testing.T) {
	for _, length := range []int{api.MaxText - 1, api.MaxText, api.MaxText + 1, 1 << 16} {
		for word := range set(allWords) {
			checkWord(t, strings.Repeat(word, length)[:length], false)
			checkWord(t, word+strings.Repeat(" ", length-len(word)), false)
			checkWord(t, strings.Repeat(" ", length-len(word))+word, false)
			checkWord(t, strings.Repeat("\x00", length-len(word))+word, false)
		}
	}
}

// P2.4: how many bytes of each kind there are.
func TestKindsAreCounted(t *testing.T) {
	counts := map[uint8]int{}
	for c := range 256 {
		counts[Kind(byte(c))]++
	}
	wanted := map[uint8]int{api.ChBlank: 2, api.ChDigit: 10, api.ChLetter: 26, api.ChSymbol: 9, api.ChNone: 209}
	for k := range 256 {
		if kind := uint8(k); counts[kind] != wanted[kind] {
			t.Errorf("%d bytes have the kind %d; want %d", counts[kind], kind, wanted[kind])
		}
	}
}

// P2.4: what is behind a symbol of two bytes does not matter, nor what is in front of a symbol.
func TestSymbolIsToldByItsBytesAlone(t *testing.T) {
	for symbol := range set(allSymbols) {
		for _, c := range everyByte() {
			checkSymbol(t, c+symbol, 1, len(symbol))
			if len(symbol) < 2 {
				continue
			}
			for _, more := range []string{"", "=", "<", "a", " ", "\xff", "<<==>>!="} {
				checkSymbol(t, symbol+c+more, 0, 2)
			}
		}
	}
}

// P2.4: a symbol of one byte is one, unless it makes one of two with the byte behind it.
func TestSymbolOfOneByte(t *testing.T) {
	for _, c := range strings.Fields("( ) * + - < > =") {
		checkSymbol(t, c, 0, 1)
		for _, d := range everyByte() {
			want := 1
			switch c + d {
			case "<=", "<<", ">=", ">>":
				want = 2
			}
			checkSymbol(t, c+d, 0, want)
		}
	}
}

// P2.4: a text of a symbol alone is told by its first two bytes.
func TestSymbolIsToldByTwoBytes(t *testing.T) {
	l := everyByte()
	for _, c := range l {
		for _, d := range l {
			n, e := Symbol(c+d, 0)
			for _, more := range []string{"=", "<", ">", "a", " ", "\x00", "==", "<=>="} {
				if m, f := Symbol(c+d+more, 0); m != n || f != e {
					t.Errorf("Symbol(%q, 0) = %d, %d; but Symbol(%q, 0) = %d, %d", c+d, n, e, c+d+more, m, f)
				}
			}
		}
	}
}

// P2.4: words are letters alone, symbols are ChSymbol alone; each symbol is one as a whole, and no word begins with one.
func TestWordsAndSymbolsHaveOneKind(t *testing.T) {
	for word := range set(allWords) {
		for i := range len(word) {
			if k := Kind(word[i]); k != api.ChLetter {
				t.Errorf("%q has the kind %d at %d", word, k, i)
			}
			checkSymbol(t, word, i, 0)
		}
	}
	for symbol := range set(allSymbols) {
		for i := range len(symbol) {
			if k := Kind(symbol[i]); k != api.ChSymbol {
				t.Errorf("%q has the kind %d at %d", symbol, k, i)
			}
		}
		checkSymbol(t, symbol, 0, len(symbol))
		checkWord(t, symbol, false)
	}
	for c := range 256 {
		n, e := Symbol(string([]byte{byte(c)}), 0)
		if n != 0 && Kind(byte(c)) != api.ChSymbol || e != api.OK {
			t.Errorf("the byte %d of the kind %d is a symbol", c, Kind(byte(c)))
		}
	}
}

// P1, R2: a call depends on its arguments alone: the same ones give the same result, whatever was called in between.
func TestCallsAreRepeated(t *testing.T) {
	ask := func() []int {
		l := []int{}
		for _, s := range []string{"", "<", "<=", "!", "!=", "a<=b", "window", "windows", "t"} {
			for at := -2; at <= len(s)+2; at++ {
				n, e := Symbol(s, at)
				l = append(l, n, int(e))
			}
			if Word(s) {
				l = append(l, -1)
			}
		}
		for c := range 256 {
			l = append(l, int(Kind(byte(c))))
		}
		return l
	}
	first := ask()
	for range 3 {
		for i, n := range ask() {
			if n != first[i] {
				t.Errorf("result %d was %d, and is %d", i, first[i], n)
			}
		}
	}
}
