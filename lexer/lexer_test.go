package lexer

import (
	"math"
	"math/big"
	"regexp"
	"slices"
	"strings"
	"testing"
	"unsafe"

	"tailwater/api"
)

// The tests tell tokens by the chapter alone, without layers 1 and 2, so that a slip in how these are called is seen.

var (
	aToken  = regexp.MustCompile(`^(?:[0-9]+|[a-z]+|<=|<<|>=|>>|!=|[-()*+<>=])`)
	aNumber = regexp.MustCompile(`^[0-9]+$`)
	aSymbol = regexp.MustCompile(`^(?:<=|<<|>=|>>|!=|[-()*+<>=])$`)
	aWord   = regexp.MustCompile(`^(?:select|count|sum|min|max|from|union|join|where|window|tumble|slide|every|session|` +
		`by|key|late|drop|side|and|or|not|a|b|c|d|k|t|v)$`)
)

const (
	greatest = "9223372036854775807"
	tooGreat = "9223372036854775808"
)

func number(s string, at int) api.Token { return api.Token{Kind: api.ToNumber, Text: s, At: at} }
func word(s string, at int) api.Token   { return api.Token{Kind: api.ToWord, Text: s, At: at} }
func symbol(s string, at int) api.Token { return api.Token{Kind: api.ToSymbol, Text: s, At: at} }

// isNumber reports whether digits are a number.
func isNumber(s string) bool {
	n, _ := new(big.Int).SetString(s, 10)
	return n.IsInt64()
}

// isValid reports whether a token is valid.
func isValid(token api.Token) bool {
	switch token.Kind {
	case 1:
		return aNumber.MatchString(token.Text) && isNumber(token.Text)
	case 2:
		return aWord.MatchString(token.Text)
	case 3:
		return aSymbol.MatchString(token.Text)
	}
	return false
}

// wantedAll returns what All has to return.
func wantedAll(s string) ([]api.Token, int, api.Errno) {
	if len(s) > 400 {
		return nil, 0, api.ErrMany
	}
	l := []api.Token{}
	for at := 0; ; {
		at = len(s) - len(strings.TrimLeft(s[at:], " \n"))
		if at == len(s) {
			return l, at, api.OK
		}
		text := aToken.FindString(s[at:])
		switch {
		case len(l) == 200:
			return nil, at, api.ErrMany
		case aNumber.MatchString(text) && !isNumber(text):
			return nil, at, api.ErrRange
		case aNumber.MatchString(text):
			l = append(l, number(text, at))
		case aWord.MatchString(text):
			l = append(l, word(text, at))
		case aSymbol.MatchString(text):
			l = append(l, symbol(text, at))
		default:
			return nil, at, api.ErrToken
		}
		at += len(text)
	}
}

// wantedJoin returns what Join has to return.
func wantedJoin(l []api.Token) (string, api.Errno) {
	texts := []string{}
	for _, token := range l {
		texts = append(texts, token.Text)
	}
	s := strings.Join(texts, " ")
	switch {
	case len(l) > 200:
		return "", api.ErrMany
	case slices.ContainsFunc(l, func(token api.Token) bool { return !isValid(token) }):
		return "", api.ErrBad
	case len(s) > 400:
		return "", api.ErrFull
	}
	return s, api.OK
}

// expectAll checks what All returns.
func expectAll(t *testing.T, s string, want []api.Token, place int, code api.Errno) {
	t.Helper()
	l, n, e := All(s)
	if !slices.Equal(l, want) || n != place || e != code {
		t.Errorf("All(%q) = %v, %d, %d; want %v, %d, %d", s, l, n, e, want, place, code)
	}
}

// expectError checks that All returns an error, and nothing else but where it is.
func expectError(t *testing.T, s string, place int, code api.Errno) {
	t.Helper()
	expectAll(t, s, nil, place, code)
}

// compareAll compares All with the chapter.
func compareAll(t *testing.T, s string) {
	t.Helper()
	l, n, e := wantedAll(s)
	expectAll(t, s, l, n, e)
}

// expectJoin checks what Join returns.
func expectJoin(t *testing.T, l []api.Token, want string, code api.Errno) {
	t.Helper()
	if s, e := Join(l); s != want || e != code {
		t.Errorf("Join(%v) = %q, %d; want %q, %d", l, s, e, want, code)
	}
}

// compareJoin compares Join with the chapter.
func compareJoin(t *testing.T, l []api.Token) {
	t.Helper()
	s, e := wantedJoin(l)
	expectJoin(t, l, s, e)
}

// all returns the tokens of a text that has no errors.
func all(t *testing.T, s string) []api.Token {
	t.Helper()
	l, n, e := All(s)
	if n != len(s) || e != api.OK {
		t.Fatalf("All(%q): %d, %d", s, n, e)
	}
	return l
}

// everyByte returns the 256 texts of one byte.
func everyByte() []string {
	l := []string{}
	for c := range 256 {
		l = append(l, string([]byte{byte(c)}))
	}
	return l
}

// goodTexts are texts without errors: by hand, and put together from parts, by a rule that always picks the same ones.
func goodTexts() []string {
	l := []string{
		"", " ", "\n", "  \n \n\n", "7", "v", "<", "<=", "007", "sum(v)<=12", "12a", "a12b", "1 2", "1\n2", "< =", "<==", ">>>", "- -", "--5",
		"select count(*)\nfrom a where v>=-3 window tumble 5", "select sum(v) from a union c where k > 0 window slide 10 every 5 by key late side",
		"select min(v+2*(k-t))from b join d where not v=1 and k<2 or t!=" + greatest + "\nwindow session 1073741824 by key late drop\n",
		greatest, "0" + greatest, strings.Repeat("0", 381) + greatest, strings.Repeat("0", 400), strings.Repeat("a ", 200), strings.Repeat("(", 200), strings.Repeat("<<", 200),
	}
	parts := []string{
		"select ", "count\n", "from ", "a ", "v\n", "every ", "0 ", "12\n", "007 ", greatest + " ", "12a ", "(v)", "-12*", "=k<", "-" + greatest + ">",
		"(", ")", "*", "-", "<", "<=", "<<", ">", ">=", ">>", "=", "!=", " ", "\n", "  ",
	}
	state := uint32(1)
	for length := range 300 {
		s := ""
		for range length % 60 {
			state = state*1664525 + 1013904223
			s += parts[state>>16%uint32(len(parts))]
		}
		if _, _, e := wantedAll(s); e == api.OK {
			l = append(l, s)
		}
	}
	return l
}

// P3.1: the examples of the chapter.
func TestAllOfTheExamples(t *testing.T) {
	expectAll(t, "sum(v)<=12", []api.Token{word("sum", 0), symbol("(", 3), word("v", 4), symbol(")", 5), symbol("<=", 6), number("12", 8)}, 10, api.OK)
	expectAll(t, "12a", []api.Token{number("12", 0), word("a", 2)}, 3, api.OK)
	expectError(t, "su m", 0, api.ErrToken)
	expectError(t, "a ! b", 2, api.ErrToken)
}

// P3.1: tokens of each kind with their places, as long as they can be; blanks of both kinds are skipped.
func TestAllGivesTokensWithTheirPlaces(t *testing.T) {
	for _, x := range []struct {
		s    string
		want []api.Token
	}{
		{"", nil}, {" ", nil}, {"\n", nil}, {" \n\n  ", nil},
		{"7", []api.Token{number("7", 0)}},
		{"007", []api.Token{number("007", 0)}},
		{" 0\n", []api.Token{number("0", 1)}},
		{"00 12\n\n3", []api.Token{number("00", 0), number("12", 3), number("3", 7)}},
		{"v", []api.Token{word("v", 0)}},
		{"by key", []api.Token{word("by", 0), word("key", 3)}},
		{"\n\nselect\ncount ", []api.Token{word("select", 2), word("count", 9)}},
		{"a1b22c", []api.Token{word("a", 0), number("1", 1), word("b", 2), number("22", 3), word("c", 5)}},
		{"0a0", []api.Token{number("0", 0), word("a", 1), number("0", 2)}},
		{"<", []api.Token{symbol("<", 0)}},
		{"<=", []api.Token{symbol("<=", 0)}},
		{"< =", []api.Token{symbol("<", 0), symbol("=", 2)}},
		{"<\n<", []api.Token{symbol("<", 0), symbol("<", 2)}},
		{"=<", []api.Token{symbol("=", 0), symbol("<", 1)}},
		{"<<<", []api.Token{symbol("<<", 0), symbol("<", 2)}},
		{"<<=", []api.Token{symbol("<<", 0), symbol("=", 2)}},
		{"<==", []api.Token{symbol("<=", 0), symbol("=", 2)}},
		{">>>=", []api.Token{symbol(">>", 0), symbol(">=", 2)}},
		{"<>", []api.Token{symbol("<", 0), symbol(">", 1)}},
		{"!==", []api.Token{symbol("!=", 0), symbol("=", 2)}},
		{"-5", []api.Token{symbol("-", 0), number("5", 1)}},
		{"--a", []api.Token{symbol("-", 0), symbol("-", 1), word("a", 2)}},
		{"(*)+", []api.Token{symbol("(", 0), symbol("*", 1), symbol(")", 2), symbol("+", 3)}},
		{"t>=v ", []api.Token{word("t", 0), symbol(">=", 1), word("v", 3)}},
		{" k!=1\n", []api.Token{word("k", 1), symbol("!=", 2), number("1", 4)}},
		{"not(d)", []api.Token{word("not", 0), symbol("(", 3), word("d", 4), symbol(")", 5)}},
	} {
		expectAll(t, x.s, x.want, len(x.s), api.OK)
	}
}

// P3.1: each word and each symbol, alone and between others.
func TestAllKnowsWordsAndSymbols(t *testing.T) {
	words := strings.Fields("select count sum min max from union join where window tumble slide every session " +
		"by key late drop side and or not a b c d k t v")
	symbols := strings.Fields("( ) * + - < <= << > >= >> = !=")
	if len(words) != 29 || len(symbols) != 13 {
		t.Fatalf("the test has %d words and %d symbols", len(words), len(symbols))
	}
	for _, s := range words {
		n := len(s)
		expectAll(t, s, []api.Token{word(s, 0)}, n, api.OK)
		expectAll(t, "1"+s+"2", []api.Token{number("1", 0), word(s, 1), number("2", n+1)}, n+2, api.OK)
		expectError(t, s+"x", 0, api.ErrToken)
		expectError(t, "( e"+s, 2, api.ErrToken)
		expectError(t, "1"+strings.ToUpper(s), 1, api.ErrToken)
	}
	for _, s := range symbols {
		n := len(s)
		expectAll(t, s, []api.Token{symbol(s, 0)}, n, api.OK)
		expectAll(t, "a"+s+"2", []api.Token{word("a", 0), symbol(s, 1), number("2", n+1)}, n+2, api.OK)
		expectAll(t, "("+s+")", []api.Token{symbol("(", 0), symbol(s, 1), symbol(")", n+1)}, n+2, api.OK)
	}
}

// P3.1: every text of one or two bytes, and every text of up to five of some bytes.
func TestAllOfShortTexts(t *testing.T) {
	compareAll(t, "")
	for _, c := range everyByte() {
		compareAll(t, c)
		for _, d := range everyByte() {
			compareAll(t, c+d)
		}
	}
	longer := []string{""}
	for range 5 {
		shorter := longer
		longer = nil
		for _, s := range shorter {
			for _, c := range []string{" ", "1", "a", "b", "y", "<", "=", "!", "\t"} {
				compareAll(t, s+c)
				longer = append(longer, s+c)
			}
		}
	}
}

// P3.1: texts put together from parts, with one byte changed to others, at places that are spread over all of the text.
func TestAllOfLongerTexts(t *testing.T) {
	for _, s := range goodTexts() {
		compareAll(t, s)
		for at := 0; at < len(s); at += 1 + len(s)/10 {
			for _, c := range []string{" ", "\n", "\t", "9", "s", "A", "<", "=", "!", "*", ",", "\x00", "\xff"} {
				compareAll(t, s[:at]+c+s[at+1:])
			}
		}
	}
}

// P3.1: no symbol and no word begins there: the error is at the first byte of what would be the token.
func TestAllRefusesWhatIsNoToken(t *testing.T) {
	for _, x := range []struct {
		s     string
		place int
	}{
		{"!", 0}, {"!!=", 0}, {"! =", 0}, {"a!b", 1}, {"a=!b", 2}, {"  !", 2}, {"<!", 1}, {"12 $", 3}, {"12$", 2}, {"a,b", 1}, {"1.5", 1},
		{"\t", 0}, {" \ta", 1}, {"a\r\nb", 1}, {"a\x00", 1}, {"\x00a", 0}, {"\xc2\xa0a", 0}, {"a\xff", 1}, {"v\xe2\x89\xa42", 1},
		{"A", 0}, {"aB", 1}, {"Select", 0}, {"v _", 2}, {"a;", 1}, {"v/2", 1}, {"[a]", 0}, {"\"a\"", 0}, {"a&b", 1}, {"~a", 0},
		{"a b x", 4}, {"su m", 0}, {"s um", 0}, {"sums(v)", 0}, {"selectcount", 0}, {"ab", 0}, {"1e5", 1}, {"12x", 2}, {"(vv)", 1}, {"  notv", 2}, {"e", 0}, {"a\nwindows", 2},
		{strings.Repeat("a ", 199) + "x", 398}, {strings.Repeat(" ", 399) + "!", 399}, {strings.Repeat("a", 400), 0}, {strings.Repeat(" ", 200) + strings.Repeat("x", 200), 200},
	} {
		expectError(t, x.s, x.place, api.ErrToken)
	}
}

// P3.1: digits that are just a number, and digits that are just none: at their first one.
func TestAllReadsDigits(t *testing.T) {
	zeros := strings.Repeat("0", 400-len(greatest))
	for _, s := range []string{"0", "00", "9", "0123456789", "9223372036854775799", "9223372036854775806", greatest, "0" + greatest, zeros + greatest, zeros, "999999999999999999"} {
		expectAll(t, s, []api.Token{number(s, 0)}, len(s), api.OK)
	}
	for _, s := range []string{tooGreat, "9223372036854775810", "9999999999999999999", "10000000000000000000", "18446744073709551616", "18446744073709551617", "0" + tooGreat, zeros + tooGreat, strings.Repeat("9", 300)} {
		expectError(t, s, 0, api.ErrRange)
		if len(s) < 398 {
			expectError(t, " \n"+s+"a", 2, api.ErrRange)
		}
	}
	expectAll(t, "v<-"+greatest+"a", []api.Token{word("v", 0), symbol("<", 1), symbol("-", 2), number(greatest, 3), word("a", 22)}, 23, api.OK)
	expectError(t, "v<-"+tooGreat, 3, api.ErrRange)
	expectAll(t, "922337203685477580 8", []api.Token{number("922337203685477580", 0), number("8", 19)}, 20, api.OK)
}

// P3.1, and R1: of two errors in a text the first one counts, whatever they are.
func TestAllReturnsTheFirstError(t *testing.T) {
	for _, x := range []struct {
		s     string
		place int
		code  api.Errno
	}{
		{"! " + tooGreat, 0, api.ErrToken}, {tooGreat + " !", 0, api.ErrRange}, {tooGreat + "!", 0, api.ErrRange}, {tooGreat + "x", 0, api.ErrRange},
		{"x " + tooGreat, 0, api.ErrToken}, {"x" + tooGreat, 0, api.ErrToken}, {"a " + tooGreat + " x !", 2, api.ErrRange}, {"a ! x", 2, api.ErrToken},
		{"1 x ! " + tooGreat, 2, api.ErrToken}, {tooGreat + " " + tooGreat, 0, api.ErrRange}, {"1 " + tooGreat + " " + tooGreat, 2, api.ErrRange}, {"x y", 0, api.ErrToken},
	} {
		expectError(t, x.s, x.place, x.code)
	}
}

// P3.1: texts of MaxText bytes, and of one byte more, which are refused ahead of all else, at 0.
func TestAllOfLongTexts(t *testing.T) {
	full := "select count(*) from a window tumble 5"
	full += strings.Repeat(" ", api.MaxText-len(full))
	if l := all(t, full); len(l) != 10 {
		t.Errorf("%d tokens", len(l))
	}
	expectAll(t, strings.Repeat(" ", 400), nil, 400, api.OK)
	expectAll(t, strings.Repeat("\n", 399)+"v", []api.Token{word("v", 399)}, 400, api.OK)
	for _, length := range []int{api.MaxText + 1, api.MaxText + 2, 2 * api.MaxText, 1 << 16} {
		for _, part := range []string{" ", "\n", "1", "0", "a", "a ", "x", "!", "(", "<= ", "\x00", "sum(v) ", "\xff", " !", " x", " " + tooGreat} {
			expectError(t, strings.Repeat(part, length)[:length], 0, api.ErrMany)
		}
		expectError(t, strings.Repeat(" ", length-1)+"v", 0, api.ErrMany)
		expectError(t, "v"+strings.Repeat("\n", length-1), 0, api.ErrMany)
	}
}

// P3.1: MaxTokens tokens, and one more: the error is at the first byte of this one, and comes ahead of what else is wrong with it.
func TestAllOfManyTokens(t *testing.T) {
	most := strings.Repeat("(", 200)
	if l := all(t, most); len(l) != 200 || l[199] != symbol("(", 199) {
		t.Errorf("%d tokens, the last one %v", len(l), l[199:])
	}
	for _, blanks := range []string{"", " ", "\n", " \n ", strings.Repeat(" ", 150)} {
		if l := all(t, most+blanks); len(l) != 200 {
			t.Errorf("%d tokens", len(l))
		}
		for _, more := range []string{"(", ")", "<=", "7", "v", "sum", "!", "x", "A", "\x00", "\t", tooGreat, "! x", "a b", "(((("} {
			expectError(t, most+blanks+more, 200+len(blanks), api.ErrMany)
			expectError(t, blanks+most+more, 200+len(blanks), api.ErrMany)
		}
	}
	for _, s := range []string{strings.Repeat("<<", 200), strings.Repeat("a ", 200), strings.Repeat("1\n", 200), strings.Repeat("1a", 100)} {
		if l := all(t, s); len(l) != 200 {
			t.Errorf("All(%q) has %d tokens", s, len(l))
		}
	}
	fewer := strings.Repeat("(", 199)
	expectError(t, fewer+"!(", 199, api.ErrToken)
	expectError(t, fewer+"x(", 199, api.ErrToken)
	expectError(t, fewer+tooGreat+"(", 199, api.ErrRange)
	expectError(t, fewer+"(!", 200, api.ErrMany)
	expectError(t, fewer+"( "+tooGreat, 201, api.ErrMany)
	expectError(t, strings.Repeat("1a", 101), 200, api.ErrMany)
}

// P3.2: the texts of tokens with a blank between any two, wherever they stood.
func TestJoinPutsBlanksBetween(t *testing.T) {
	for _, x := range []struct {
		l    []api.Token
		want string
	}{
		{nil, ""}, {[]api.Token{}, ""},
		{[]api.Token{number("12", 8)}, "12"}, {[]api.Token{word("sum", 0)}, "sum"}, {[]api.Token{symbol("<=", 3)}, "<="},
		{[]api.Token{number("1", 0), number("2", 1)}, "1 2"}, {[]api.Token{symbol("<", 0), symbol("=", 0)}, "< ="},
		{[]api.Token{symbol("-", 0), number("5", 1)}, "- 5"}, {[]api.Token{word("by", 5), word("key", 2)}, "by key"},
		{[]api.Token{number("007", 0), word("a", 9), number("0", 9)}, "007 a 0"},
		{[]api.Token{number(greatest, 0), number("0"+greatest, 0)}, greatest + " 0" + greatest},
		{[]api.Token{word("sum", 0), symbol("(", 3), word("v", 4), symbol(")", 5), symbol("<=", 6), number("12", 8)}, "sum ( v ) <= 12"},
		{[]api.Token{word("v", -1), word("k", math.MinInt), word("t", math.MaxInt), word("a", 401), word("a", 0)}, "v k t a a"},
	} {
		expectJoin(t, x.l, x.want, api.OK)
	}
}

// P3.2, and R1: tokens that are not valid, alone, in front of valid ones and behind them.
func TestJoinRefusesOtherTokens(t *testing.T) {
	bad := []api.Token{
		{}, {At: 3}, {Text: "a"}, {Text: "7"}, {Text: "<"}, {Kind: 4, Text: "a"}, {Kind: 4, Text: "7"}, {Kind: 4, Text: "<"}, {Kind: 255, Text: "sum"},
		number("", 0), number("-1", 0), number("+1", 0), number(" 1", 0), number("1 ", 0), number("1 2", 0), number("12a", 0), number("a", 0), number("<", 0), number("0x1", 0),
		number(tooGreat, 0), number("0"+tooGreat, 0), number(strings.Repeat("9", 300), 0), number("\xd9\xa1", 0),
		word("", 0), word("e", 0), word("windows", 0), word("windo", 0), word("Sum", 0), word(" a", 0), word("a ", 0), word("a b", 0), word("ab", 0), word("7", 0), word("<", 0), word("a1", 0),
		symbol("", 0), symbol("!", 0), symbol("==", 0), symbol("<>", 0), symbol("<<=", 0), symbol("< ", 0), symbol(" <", 0), symbol("<a", 0), symbol("(*)", 0), symbol("a", 0), symbol("7", 0), symbol(",", 0), symbol("--", 0),
	}
	for _, token := range bad {
		expectJoin(t, []api.Token{token}, "", api.ErrBad)
		expectJoin(t, []api.Token{token, word("a", 0)}, "", api.ErrBad)
		expectJoin(t, []api.Token{word("a", 0), token}, "", api.ErrBad)
		expectJoin(t, append(slices.Repeat([]api.Token{word("a", 0)}, 199), token), "", api.ErrBad)
		expectJoin(t, []api.Token{token, token}, "", api.ErrBad)
	}
}

// P3.2: every kind with texts of each kind, and every text of one or two bytes with kinds around the valid ones.
func TestJoinLooksAtKindsAndTexts(t *testing.T) {
	for kind := range 256 {
		for _, s := range []string{"", "7", "007", greatest, tooGreat, "-7", "v", "select", "x", "<", "<=", "!=", "!", "(", "()", " ", "\n", "a b"} {
			compareJoin(t, []api.Token{{Kind: uint8(kind), Text: s}})
		}
	}
	for kind := range uint8(5) {
		for _, c := range everyByte() {
			compareJoin(t, []api.Token{{Kind: kind, Text: c}})
			for _, d := range everyByte() {
				compareJoin(t, []api.Token{{Kind: kind, Text: c + d}})
			}
		}
	}
}

// P3.2: a joined text of MaxText bytes, and one of more: by the last token, the first one, and one between.
func TestJoinOfLongTexts(t *testing.T) {
	ones := slices.Repeat([]api.Token{word("a", 0)}, 200) // 399 bytes
	for at := range ones {
		l := slices.Clone(ones)
		l[at] = word("by", 0)
		compareJoin(t, l)
		if s, e := Join(l); len(s) != 400 || e != api.OK {
			t.Errorf("%d bytes, error %d", len(s), e)
		}
		l[at] = word("sum", 0)
		expectJoin(t, l, "", api.ErrFull)
		l[at] = number(strings.Repeat("0", 1000), 0)
		expectJoin(t, l, "", api.ErrFull)
	}
	for _, length := range []int{1, 200, 395, 396, 397, 398, 399, 400, 401, 402, 403, 1000, 1 << 20} {
		long := number(strings.Repeat("0", length-1)+"7", 0)
		for _, l := range [][]api.Token{
			{long}, {long, symbol("<", 0)}, {symbol("<", 0), long}, {long, symbol("<=", 0)}, {symbol("<=", 0), long}, {word("a", 0), long, word("b", 0)}, {long, long},
		} {
			compareJoin(t, l)
		}
	}
	expectJoin(t, []api.Token{number(strings.Repeat("0", 400), 0)}, strings.Repeat("0", 400), api.OK)
	expectJoin(t, []api.Token{number(strings.Repeat("0", 401), 0)}, "", api.ErrFull)
	expectJoin(t, []api.Token{number(strings.Repeat("0", 398), 0), word("v", 0)}, strings.Repeat("0", 398)+" v", api.OK)
	expectJoin(t, []api.Token{number(strings.Repeat("0", 399), 0), word("v", 0)}, "", api.ErrFull)
}

// P3.2, and R1: too many tokens come ahead of those that are not valid, and these ahead of too many bytes.
func TestJoinOfManyTokens(t *testing.T) {
	one, bad, long := word("a", 0), word("x", 0), number(strings.Repeat("0", 500), 0)
	expectJoin(t, slices.Repeat([]api.Token{one}, 200), strings.Repeat("a ", 199)+"a", api.OK)
	expectJoin(t, slices.Repeat([]api.Token{one}, 201), "", api.ErrMany)
	expectJoin(t, slices.Repeat([]api.Token{one}, 1000), "", api.ErrMany)
	for _, token := range []api.Token{{}, bad, long, number(tooGreat, 0)} {
		expectJoin(t, slices.Repeat([]api.Token{token}, 201), "", api.ErrMany)
		expectJoin(t, append([]api.Token{token}, slices.Repeat([]api.Token{one}, 200)...), "", api.ErrMany)
		expectJoin(t, append(slices.Repeat([]api.Token{one}, 200), token), "", api.ErrMany)
	}
	expectJoin(t, []api.Token{long, bad}, "", api.ErrBad)
	expectJoin(t, []api.Token{bad, long}, "", api.ErrBad)
	expectJoin(t, append(slices.Repeat([]api.Token{word("select", 0)}, 199), bad), "", api.ErrBad)
	expectJoin(t, slices.Repeat([]api.Token{word("select", 0)}, 200), "", api.ErrFull)
}

// P3.3: tokens joined are read as these, each one place behind the end of the one in front.
func TestJoinedTokensAreReadAgain(t *testing.T) {
	for _, s := range goodTexts() {
		l := all(t, s)
		joined, e := Join(l)
		if e == api.ErrFull {
			continue
		}
		at := 0
		for i := range l {
			l[i].At = at
			at += len(l[i].Text) + 1
		}
		expectAll(t, joined, l, max(at-1, 0), e)
		expectJoin(t, all(t, joined), joined, api.OK)
	}
}

// P3.3: blanks in front, behind and between tokens change nothing but places, unless the text gets too long.
func TestBlanksDoNotMatter(t *testing.T) {
	for _, s := range goodTexts() {
		l := all(t, s)
		cuts := []int{0, len(s)}
		for _, token := range l {
			cuts = append(cuts, token.At)
		}
		for _, blanks := range []string{" ", "\n", " \n\n ", strings.Repeat(" ", 400-len(s)), strings.Repeat("\n", 401-len(s))} {
			for _, cut := range cuts {
				changed := s[:cut] + blanks + s[cut:]
				if len(changed) > 400 {
					expectError(t, changed, 0, api.ErrMany)
					continue
				}
				moved := slices.Clone(l)
				for i := range moved {
					if moved[i].At >= cut {
						moved[i].At += len(blanks)
					}
				}
				expectAll(t, changed, moved, len(changed), api.OK)
			}
		}
	}
}

// P3.3: each token is valid; tokens do not overlap; with blanks where they were they are the text.
func TestTokensAndBlanksAreTheText(t *testing.T) {
	for _, s := range goodTexts() {
		end, again := 0, ""
		for _, token := range all(t, s) {
			if !isValid(token) {
				t.Errorf("All(%q) has %v, which is not valid", s, token)
			}
			expectJoin(t, []api.Token{token}, token.Text, api.OK)
			if token.At < end || token.At+len(token.Text) > len(s) {
				t.Fatalf("All(%q) has a token at %d, behind %d", s, token.At, end)
			}
			between := s[end:token.At]
			if strings.Trim(between, " \n") != "" {
				t.Errorf("All(%q) leaves %q out", s, between)
			}
			again += between + token.Text
			end = token.At + len(token.Text)
		}
		if strings.Trim(s[end:], " \n") != "" || again+s[end:] != s {
			t.Errorf("All(%q) makes %q of it", s, again+s[end:])
		}
	}
}

// P1, R2: arguments are left as they were, also the memory between the length and the capacity of a slice.
func TestArgumentsAreLeftAsTheyWere(t *testing.T) {
	for _, l := range [][]api.Token{
		nil, all(t, "sum(v)<=12"), {word("a", -7), {}, number("7", 9)}, {word("x", 1), word("a", 2)}, {number(strings.Repeat("0", 500), 3), word("a", 4)},
		slices.Repeat([]api.Token{word("a", 5)}, 201), slices.Repeat([]api.Token{word("select", 5)}, 100),
	} {
		space := append(slices.Clone(l), word("behind", 1), number("behind", 2), api.Token{})
		before := slices.Clone(space)
		s, e := Join(space[:len(l)])
		if want, code := wantedJoin(l); s != want || e != code {
			t.Errorf("Join(%v) = %q, %d", l, s, e)
		}
		if !slices.Equal(space, before) {
			t.Errorf("Join changed %v to %v", before, space)
		}
	}
	for _, text := range []string{"sum(v) <= 12", "su m", "1 " + tooGreat, strings.Repeat("a ", 201)} {
		s := strings.Clone(text)
		All(s)
		if s != text {
			t.Errorf("All changed %q to %q", text, s)
		}
	}
}

// P1, R2: results share no memory with arguments, nor with each other.
func TestResultsShareNoMemory(t *testing.T) {
	within := func(part, whole string) bool {
		p, w := uintptr(unsafe.Pointer(unsafe.StringData(part))), uintptr(unsafe.Pointer(unsafe.StringData(whole)))
		return w <= p && p < w+uintptr(len(whole))
	}
	for _, s := range []string{"select", "7", "<=", "sum(v)<=12", " 12 12 v\nv = = "} {
		l := all(t, s)
		for i, token := range l {
			if within(token.Text, s) {
				t.Errorf("All(%q) has a part of its argument at %d", s, token.At)
			}
			if joined, _ := Join(l[i : i+1]); within(joined, token.Text) {
				t.Errorf("Join returns the text of its token %q", token.Text)
			}
			for _, other := range l[i+1:] {
				if within(token.Text, other.Text) || within(other.Text, token.Text) {
					t.Errorf("All(%q) has the same memory at %d and %d", s, token.At, other.At)
				}
			}
		}
	}
	first := all(t, "sum(v)<=12")
	first[0], first[5].Text = api.Token{}, "changed"
	expectAll(t, "sum(v)<=12", []api.Token{word("sum", 0), symbol("(", 3), word("v", 4), symbol(")", 5), symbol("<=", 6), number("12", 8)}, 10, api.OK)
}

// P1, R2: a call depends on its arguments alone: the same ones give the same result, whatever was called in between.
func TestCallsAreRepeated(t *testing.T) {
	texts := append(goodTexts(), "su m", "a ! b", tooGreat, strings.Repeat("(", 201), strings.Repeat(" ", 401))
	for range 3 {
		for _, s := range texts {
			compareAll(t, s)
			l, _, _ := wantedAll(s)
			compareJoin(t, l)
			compareJoin(t, append(l, api.Token{}))
		}
	}
}
