package parser

import (
	"slices"
	"strconv"
	"strings"
	"testing"

	"tailwater/api"
	"tailwater/clauses"
	"tailwater/lexer"
	"tailwater/nodes"
)

// choice is a text, or what may stand at one place of it, with the error that it has, and where in it that is.
type choice struct {
	s    string
	at   int
	code api.Errno
}

// nothing reports whether a query is the zero one.
func nothing(q api.Query) bool { return equal(q, api.Query{}) }

// equal reports whether two queries are the same in each field, where a list may be nil or empty.
func equal(p, q api.Query) bool {
	return p.Agg == q.Agg && slices.Equal(p.Arg, q.Arg) && slices.Equal(p.Sources, q.Sources) && p.Join == q.Join &&
		slices.Equal(p.Where, q.Where) && p.Window == q.Window && p.ByKey == q.ByKey && p.Late == q.Late
}

// expectQuery checks what Parse returns for the text of a query.
func expectQuery(t *testing.T, s string, want api.Query) {
	t.Helper()
	if q, n, e := Parse(s); !equal(q, want) || n != len(s) || e != 0 {
		t.Errorf("Parse(%q) = %+v, %d, %d; want %+v, %d", s, q, n, e, want, len(s))
	}
}

// expectError checks that Parse returns an error and its place, and nothing beside them.
func expectError(t *testing.T, s string, at int, code api.Errno) {
	t.Helper()
	if q, n, e := Parse(s); !nothing(q) || n != at || e != code {
		t.Errorf("Parse(%q) = %+v, %d, %d; want %d, %d", s, q, n, e, at, code)
	}
}

// compare compares what Parse returns for a text with the tree of the grammar, and returns whether it is a query.
func compare(t *testing.T, s string) bool {
	t.Helper()
	want, at, code := wanted(s)
	q, n, e := Parse(s)
	if !equal(q, want) || n != at || e != code {
		t.Errorf("Parse(%q) = %+v, %d, %d; want %+v, %d, %d", s, q, n, e, want, at, code)
	}
	if e == 0 && clauses.Check(q) != 0 {
		t.Errorf("Parse(%q) = %+v is not valid: %d", s, q, clauses.Check(q))
	}
	return e == 0
}

// tokens returns the tokens of a text.
func tokens(t *testing.T, s string) []api.Token {
	t.Helper()
	l, n, e := lexer.All(s)
	if e != 0 {
		t.Fatalf("%q has no tokens: %d, %d", s, n, e)
	}
	return l
}

// texts returns the texts of the tokens of a text.
func texts(t *testing.T, s string) []string {
	t.Helper()
	l := []string{}
	for _, token := range tokens(t, s) {
		l = append(l, token.Text)
	}
	return l
}

// symbolsAndWords returns all tokens that are no numbers.
func symbolsAndWords() []string {
	return strings.Fields("( ) * + - < <= << > >= >> = != select count sum min max from union join where window tumble slide every session by key late drop side and or not a b c d k t v")
}

// samples are queries of all forms.
func samples() []string {
	return []string{
		"select count(*) from a window tumble 5",
		"select sum(v) from a window tumble 5",
		"select min(t) from b window slide 10 every 5",
		"select max(k) from c window session 7",
		"select count(*) from d where v window tumble 5 by key",
		"select sum(v+2*k) from d union a where k < 2 window slide 32 every 2 late drop",
		"select min(-v) from b union a union d where not k window session 1 late side",
		"select max((v)) from c union b union a union d where (k) window tumble 1073741824 by key late drop",
		"select count(*) from a join b window tumble 1 by key late side",
		"select sum(0) from d join a where v = 1 or t != 2 and k >= 3 window tumble 60",
		"select max(v - 1)\nfrom c join b\nwhere not (k = 2)\nwindow tumble 3600 by key",
		"select count(*) from b join d where - - v << 2 window tumble 60 late side",
		"select sum(v) from a union c where k > 0 window slide 10 every 5 by key late side",
		"select min(((v)) * (k - (t))) from a where (not (v)) window slide 16 every 1 by key",
		"  select\n\ncount ( * )from b union c window session 007 late\ndrop  ",
	}
}

// P9.1: the chapter's examples, and that of DOC.md.
func TestExamples(t *testing.T) {
	expectQuery(t, "select sum(v) from a union c where k > 0 window slide 10 every 5 by key late side", api.Query{
		Agg: api.AgSum, Arg: []api.Node{{Kind: api.NoValue, At: 11}}, Sources: []int{0, 2},
		Where:  []api.Node{{Kind: api.NoKey, At: 35}, {Kind: api.NoNumber, At: 39}, {Kind: api.NoMore, A: 0, B: 1, At: 37}},
		Window: api.Window{Kind: api.WiSlide, Size: 10, Every: 5}, ByKey: true, Late: api.LaSide,
	})
	expectError(t, "select count(*) from a", 22, api.ErrForm)
	expectError(t, "select count(*) from a join a window tumble 5", 28, api.ErrName)
}

// P9.1: each form that the grammar has, field by field.
func TestForms(t *testing.T) {
	value := func(at int) []api.Node { return []api.Node{{Kind: 4, At: at}} }
	tumble := func(size int64) api.Window { return api.Window{Kind: 1, Size: size} }
	for _, x := range []struct {
		s    string
		want api.Query
	}{
		{"select count(*) from a window tumble 5", api.Query{Agg: 1, Sources: []int{0}, Window: tumble(5), Late: 1}},
		{"select sum(v) from a window tumble 5", api.Query{Agg: 2, Arg: value(11), Sources: []int{0}, Window: tumble(5), Late: 1}},
		{"select min(v) from a window tumble 5", api.Query{Agg: 3, Arg: value(11), Sources: []int{0}, Window: tumble(5), Late: 1}},
		{"select max(v) from a window tumble 5", api.Query{Agg: 4, Arg: value(11), Sources: []int{0}, Window: tumble(5), Late: 1}},
		{"select sum(v+2*k) from a window tumble 5", api.Query{Agg: 2, Sources: []int{0}, Window: tumble(5), Late: 1,
			Arg: []api.Node{{Kind: 4, At: 11}, {Kind: 1, N: 2, At: 13}, {Kind: 2, At: 15}, {Kind: 7, A: 1, B: 2, At: 14}, {Kind: 8, A: 0, B: 3, At: 12}}}},
		{"select max((v)) from a window tumble 5", api.Query{Agg: 4, Arg: value(12), Sources: []int{0}, Window: tumble(5), Late: 1}},
		{"select min(not v < 1) from a window tumble 5", api.Query{Agg: 3, Sources: []int{0}, Window: tumble(5), Late: 1,
			Arg: []api.Node{{Kind: 4, At: 15}, {Kind: 1, N: 1, At: 19}, {Kind: 12, A: 0, B: 1, At: 17}, {Kind: 6, A: 2, At: 11}}}},
		{"select count(*) from b window tumble 5", api.Query{Agg: 1, Sources: []int{1}, Window: tumble(5), Late: 1}},
		{"select count(*) from c window tumble 5", api.Query{Agg: 1, Sources: []int{2}, Window: tumble(5), Late: 1}},
		{"select count(*) from d window tumble 5", api.Query{Agg: 1, Sources: []int{3}, Window: tumble(5), Late: 1}},
		{"select count(*) from d union b window tumble 5", api.Query{Agg: 1, Sources: []int{3, 1}, Window: tumble(5), Late: 1}},
		{"select count(*) from c union a union b window tumble 5", api.Query{Agg: 1, Sources: []int{2, 0, 1}, Window: tumble(5), Late: 1}},
		{"select count(*) from b union d union a union c window tumble 5", api.Query{Agg: 1, Sources: []int{1, 3, 0, 2}, Window: tumble(5), Late: 1}},
		{"select count(*) from d join c window tumble 5", api.Query{Agg: 1, Sources: []int{3, 2}, Join: true, Window: tumble(5), Late: 1}},
		{"select sum(v) from a join b where v window tumble 5", api.Query{Agg: 2, Arg: value(11), Sources: []int{0, 1}, Join: true, Where: value(34), Window: tumble(5), Late: 1}},
		{"select count(*) from a where v window tumble 5", api.Query{Agg: 1, Sources: []int{0}, Where: value(29), Window: tumble(5), Late: 1}},
		{"select count(*) from a where - 3 window tumble 5", api.Query{Agg: 1, Sources: []int{0}, Where: []api.Node{{Kind: 1, N: 3, At: 31}, {Kind: 5, At: 29}}, Window: tumble(5), Late: 1}},
		{"select count(*) from a where k or t window tumble 5", api.Query{Agg: 1, Sources: []int{0}, Where: []api.Node{{Kind: 2, At: 29}, {Kind: 3, At: 34}, {Kind: 19, A: 0, B: 1, At: 31}}, Window: tumble(5), Late: 1}},
		{"select count(*) from a window slide 10 every 3", api.Query{Agg: 1, Sources: []int{0}, Window: api.Window{Kind: 2, Size: 10, Every: 3}, Late: 1}},
		{"select count(*) from a window session 8", api.Query{Agg: 1, Sources: []int{0}, Window: api.Window{Kind: 3, Size: 8}, Late: 1}},
		{"select count(*) from a window tumble 0060", api.Query{Agg: 1, Sources: []int{0}, Window: tumble(60), Late: 1}},
		{"select count(*) from a window tumble 5 by key", api.Query{Agg: 1, Sources: []int{0}, Window: tumble(5), ByKey: true, Late: 1}},
		{"select count(*) from a window tumble 5 late drop", api.Query{Agg: 1, Sources: []int{0}, Window: tumble(5), Late: 1}},
		{"select count(*) from a window tumble 5 late side", api.Query{Agg: 1, Sources: []int{0}, Window: tumble(5), Late: 2}},
		{"select count(*) from a window tumble 5 by key late drop", api.Query{Agg: 1, Sources: []int{0}, Window: tumble(5), ByKey: true, Late: 1}},
		{"select count(*) from a window tumble 5 by key late side", api.Query{Agg: 1, Sources: []int{0}, Window: tumble(5), ByKey: true, Late: 2}},
		{"select max(t) from d union c where k window slide 9 every 9 by key late side", api.Query{Agg: 4, Arg: []api.Node{{Kind: 3, At: 11}}, Sources: []int{3, 2}, Where: []api.Node{{Kind: 2, At: 35}}, Window: api.Window{Kind: 2, Size: 9, Every: 9}, ByKey: true, Late: 2}},
		{"\n select  count(\n*)from a window tumble5by key\n", api.Query{Agg: 1, Sources: []int{0}, Window: tumble(5), ByKey: true, Late: 1}},
		{"select sum(v)from a where(k)window slide 7every 7late side", api.Query{Agg: 2, Arg: value(11), Sources: []int{0}, Where: []api.Node{{Kind: 2, At: 26}}, Window: api.Window{Kind: 2, Size: 7, Every: 7}, Late: 2}},
	} {
		expectQuery(t, x.s, x.want)
		compare(t, x.s)
	}
}

// P9.1 and P9.2: all ways that the grammar has, with the sources in each order.
func TestAllWays(t *testing.T) {
	count := 0
	expressions := []string{"v", "( k < 2 )", "- v + 3", "not ( k ) and t"}
	for i, head := range heads() {
		for j, from := range origins() {
			for k, condition := range conditions() {
				for m, width := range widths() {
					for n, tail := range tails() {
						s := head + " from " + from.way + " " + condition + " window " + width + " " + tail
						s = strings.ReplaceAll(s, anExpr, expressions[(i+j+k+m+n)%len(expressions)])
						s = strings.ReplaceAll(strings.ReplaceAll(s, aSize, "16"), anEvery, strconv.Itoa(1+(j+n)%16))
						if compare(t, s) {
							count++
						}
					}
				}
			}
		}
	}
	// Sources in any order, with windows of three kinds, or joined in any order with one of them.
	if want := 4 * 2 * 6 * ((4+12+24+24)*3 + 12); count != want {
		t.Errorf("%d texts are queries; want %d", count, want)
	}
}

// P9.1: what does not stand there, at each place of the grammar.
func TestErrorsOfForm(t *testing.T) {
	for _, x := range []choice{
		{"", 0, 12}, {"  \n ", 4, 12}, {"5", 0, 12}, {" (", 1, 12}, {"from a", 0, 12}, {"count(*) from a", 0, 12}, {"v", 0, 12},
		{"select", 6, 12}, {"select  ", 8, 12}, {"select select", 7, 12}, {"select a", 7, 12}, {"select *", 7, 12}, {"select (v)", 7, 12}, {"select v", 7, 12}, {"select from", 7, 12}, {"select 1", 7, 12},
		{"select count", 12, 12}, {"select count*", 12, 12}, {"select count from", 13, 12}, {"select count(", 13, 12}, {"select count()", 13, 12}, {"select count(v)", 13, 12}, {"select count(1)", 13, 12}, {"select count((*))", 13, 12},
		{"select count(*", 14, 12}, {"select count(**", 14, 12}, {"select count(* v)", 15, 12}, {"select count(*,", 14, 32}, {"select count(* from", 15, 12},
		{"select sum", 10, 12}, {"select sum v", 11, 12}, {"select sum*", 10, 12}, {"select max(", 11, 12}, {"select min()", 11, 12}, {"select sum(*)", 11, 12}, {"select sum(v", 12, 12}, {"select sum(v v)", 13, 12}, {"select sum((v)", 14, 12}, {"select max(v from a window tumble 1", 13, 12},
		{"select count(*)", 15, 12}, {"select count(*))", 15, 12}, {"select count(*) a", 16, 12}, {"select count(*) where v", 16, 12}, {"select count(*) window tumble 5", 16, 12}, {"select sum(v) + 1 from", 14, 12},
		{"select count(*) from", 20, 12}, {"select count(*) from v", 21, 12}, {"select count(*) from 0", 21, 12}, {"select count(*) from from", 21, 12}, {"select count(*) from (a)", 21, 12}, {"select count(*) from window tumble 5", 21, 12}, {"select count(*) from union a", 21, 12},
		{"select count(*) from a", 22, 12}, {"select count(*) from a b", 23, 12}, {"select count(*) from a a", 23, 12}, {"select count(*) from a by key", 23, 12}, {"select count(*) from a late drop", 23, 12}, {"select count(*) from a tumble 5", 23, 12}, {"select count(*) from a and b", 23, 12}, {"select count(*) from a + b", 23, 12}, {"select count(*) from a 5", 23, 12}, {"select count(*) from a from b", 23, 12},
		{"select count(*) from a union", 28, 12}, {"select count(*) from a union t", 29, 12}, {"select count(*) from a union union b", 29, 12}, {"select count(*) from a union join b", 29, 12}, {"select count(*) from a union window tumble 5", 29, 12}, {"select count(*) from a union b", 30, 12}, {"select count(*) from a union b c", 31, 12}, {"select count(*) from a union b join c", 31, 12}, {"select count(*) from a union b union c union d union", 52, 12},
		{"select count(*) from a join", 27, 12}, {"select count(*) from a join k", 28, 12}, {"select count(*) from a join b", 29, 12}, {"select count(*) from a join b union c window tumble 5", 30, 12}, {"select count(*) from a join b join c window tumble 5", 30, 12}, {"select count(*) from a join b b", 30, 12},
		{"select count(*) from a where", 28, 12}, {"select count(*) from a where window tumble 5", 29, 12}, {"select count(*) from a where v", 30, 12}, {"select count(*) from a where v where v", 31, 12}, {"select count(*) from a where v by key", 31, 12}, {"select count(*) from a where v v", 31, 12}, {"select count(*) from a where v union b", 31, 12}, {"select count(*) from a where a window", 29, 12},
		{"select count(*) from a window", 29, 12}, {"select count(*) from a window 5", 30, 12}, {"select count(*) from a window every 5", 30, 12}, {"select count(*) from a window where", 30, 12}, {"select count(*) from a window window", 30, 12}, {"select count(*) from a join b window 5", 37, 12}, {"select count(*) from a join b window", 36, 12},
		{"select count(*) from a window tumble", 36, 12}, {"select count(*) from a window tumble v", 37, 12}, {"select count(*) from a window tumble - 5", 37, 12}, {"select count(*) from a window tumble (5)", 37, 12}, {"select count(*) from a window tumble every 5", 37, 12}, {"select count(*) from a window tumble by key", 37, 12}, {"select count(*) from a window session", 37, 12}, {"select count(*) from a window session late", 38, 12}, {"select count(*) from a window slide", 35, 12}, {"select count(*) from a window slide every 5", 36, 12}, {"select count(*) from a window slide +5", 36, 12},
		{"select count(*) from a window slide 5", 37, 12}, {"select count(*) from a window slide 5 5", 38, 12}, {"select count(*) from a window slide 5 by key", 38, 12}, {"select count(*) from a window slide 5 late drop", 38, 12}, {"select count(*) from a window slide 5 every", 43, 12}, {"select count(*) from a window slide 5 every every", 44, 12}, {"select count(*) from a window slide 5 every -1", 44, 12}, {"select count(*) from a window slide 5 every by key", 44, 12}, {"select count(*) from a window slide 5 every k", 44, 12},
		{"select count(*) from a window tumble 5 by", 41, 12}, {"select count(*) from a window tumble 5 by v", 42, 12}, {"select count(*) from a window tumble 5 by k", 42, 12}, {"select count(*) from a window tumble 5 by by key", 42, 12}, {"select count(*) from a window tumble 5 by late drop", 42, 12},
		{"select count(*) from a window tumble 5 late", 43, 12}, {"select count(*) from a window tumble 5 late late", 44, 12}, {"select count(*) from a window tumble 5 late by key", 44, 12}, {"select count(*) from a window tumble 5 late 1", 44, 12}, {"select count(*) from a window tumble 5 by key late", 50, 12}, {"select count(*) from a window tumble 5 by key late key", 51, 12},
	} {
		expectError(t, x.s, x.at, x.code)
		compare(t, x.s)
	}
}

// P9.1: tokens behind a whole query.
func TestMoreBehindTheQuery(t *testing.T) {
	for _, x := range []struct {
		s  string
		at int
	}{
		{"select count(*) from a window tumble 5 5", 39}, {"select count(*) from a window tumble 5 every 5", 39}, {"select count(*) from a window tumble 5)", 38}, {"select count(*) from a window tumble 5 key", 39}, {"select count(*) from a window tumble 5 drop", 39}, {"select count(*) from a window tumble 5 side late", 39},
		{"select count(*) from a window tumble 5 where v", 39}, {"select count(*) from a window tumble 5 union b", 39}, {"select count(*) from a window tumble 5 select count(*) from a window tumble 5", 39}, {"select count(*) from a window tumble 5 window tumble 5", 39}, {"select count(*) from a window tumble 5 + 5", 39},
		{"select count(*) from a window slide 5 every 5 every 5", 46}, {"select count(*) from a window session 5 every 5", 40}, {"select count(*) from a join b window tumble 5 every 5", 46},
		{"select count(*) from a window tumble 5 by key by key", 46}, {"select count(*) from a window tumble 5 by key key", 46}, {"select count(*) from a window tumble 5 by key 5", 46}, {"select count(*) from a window tumble 5 by key\n)", 46},
		{"select count(*) from a window tumble 5 late drop by key", 49}, {"select count(*) from a window tumble 5 late side by key", 49}, {"select count(*) from a window tumble 5 late drop late side", 49}, {"select count(*) from a window tumble 5 late drop side", 49}, {"select count(*) from a window tumble 5 by key late side side", 56}, {"select count(*) from a window tumble 5 by key late side*", 55},
	} {
		expectError(t, x.s, x.at, 38)
		compare(t, x.s)
	}
	for _, more := range append(symbolsAndWords(), "0", "5", "60") {
		for _, s := range []string{"select count(*) from a window tumble 5 late drop", "select count(*) from a window slide 5 every 5 by key late side", "select sum(v) from a join b where v window tumble 5 late side"} {
			expectError(t, s+" "+more, len(s)+1, 38)
			expectError(t, s+"\n"+more+" "+more, len(s)+1, 38)
		}
		s := "select count(*) from a window session 5"
		if more != "by" && more != "late" {
			expectError(t, s+"  "+more, len(s)+2, 38)
		}
		if more != "late" {
			expectError(t, s+" by key "+more, len(s)+8, 38)
		}
	}
}

// P9.1: errors of lexer.All, at all places, which come ahead of all others of the text.
func TestErrorsOfTokens(t *testing.T) {
	texts := append(samples(), "", "select", "from a from a", "select count(*) from a union a window tumble 0", "select sum(v < ) from a join a window slide 0 every 1 k", "select count(*) from a window tumble 5 v v v")
	for _, x := range []choice{
		{" ! ", 1, 32}, {" windows ", 1, 32}, {" A ", 1, 32}, {" , ", 1, 32}, {" \t ", 1, 32}, {" _ ", 1, 32}, {" hop ", 1, 32}, {" == . ", 4, 32}, {" \x00 ", 1, 32}, {" \xff ", 1, 32},
		{" 9223372036854775808 ", 1, 16}, {" 99999999999999999999 ", 1, 16}, {" 18446744073709551621 ", 1, 16}, {" 9223372036854775808 ! ", 1, 16}, {" x 9223372036854775808 ", 1, 32},
	} {
		for _, s := range texts {
			for _, token := range append(tokens(t, s), api.Token{At: len(s)}) {
				expectError(t, s[:token.At]+x.s+s[token.At:], token.At+x.at, x.code)
			}
		}
	}
	expectError(t, "select selected", 7, 32)
	expectError(t, "select count(*) from a window tumble 5 late drops", 44, 32)
	expectError(t, "select count(*) from e window tumble 5", 21, 32)
	expectError(t, "selectcount(*) from a window tumble 5", 0, 32)
	expectError(t, "select count(*) from a window tumble 5; ", 38, 32)
}

// P9.1: texts and lists of tokens at their limits, and beyond.
func TestLimitsOfTexts(t *testing.T) {
	for _, s := range samples() {
		want, _, _ := wanted(s)
		blanks := strings.Repeat(" ", 400-len(s))
		expectQuery(t, s+blanks, want)
		expectError(t, s+blanks+" ", 0, 4)
		expectError(t, s+blanks+"\n", 0, 4)
		expectError(t, s+blanks+"!", 0, 4)
		expectError(t, "!"+s+blanks, 0, 4)
		if q, n, e := Parse(blanks + s); n != 400 || e != 0 || !sameButPlaces(t, q, want) {
			t.Errorf("Parse(%d blanks and %q) = %+v, %d, %d", len(blanks), s, q, n, e)
		}
	}
	expectError(t, strings.Repeat("v", 401), 0, 4)
	expectError(t, strings.Repeat("!", 5000), 0, 4)
	expectError(t, strings.Repeat(" ", 400), 400, 12)
	expectError(t, strings.Repeat(" ", 401), 0, 4)

	brackets := func(count int) string {
		return "select sum(" + strings.Repeat("(", count) + "v" + strings.Repeat(")", count) + ")from a window tumble 1"
	}
	query := api.Query{Agg: 2, Arg: []api.Node{{Kind: 4, At: 106}}, Sources: []int{0}, Window: api.Window{Kind: 1, Size: 1}, Late: 1}
	expectQuery(t, brackets(95), query) // 200 tokens
	expectError(t, brackets(95)+" v", len(brackets(95))+1, 4)
	expectError(t, brackets(95)+" !", len(brackets(95))+1, 4)
	expectError(t, brackets(96), len(brackets(96))-8, 4) // "tumble" is the 201st of 202
	expectError(t, strings.Repeat("v ", 199)+"v", 0, 12)
	expectError(t, strings.Repeat("v ", 200), 0, 12)
	expectError(t, strings.Repeat("+", 201), 200, 4)
	query.Arg[0].At, query.ByKey = 104, true
	expectQuery(t, brackets(93)+"by key", query)
}

// sameButPlaces reports whether two queries are the same, but for places.
func sameButPlaces(t *testing.T, p, q api.Query) bool {
	t.Helper()
	same, e := clauses.Same(p, q)
	return same && e == 0
}

// sum is v in a sum with itself some times; it has 2 * count - 1 nodes, and the depth count.
func sum(count int) string { return strings.Repeat("v+", count-1) + "v" }

// badExpressions are texts where an expression has to be, with their errors. The first ones are expressions at the limits, which have none.
func badExpressions() []choice {
	return []choice{
		{"v", 0, 0}, {"((v))", 0, 0}, {"not v", 0, 0}, {"v<1 and not k=2", 0, 0}, {strings.Repeat("-", 19) + "v", 0, 0}, {sum(20), 0, 0}, {"(" + sum(15) + ")+(" + sum(14) + "+-v)", 0, 0},
		{"*", 0, 12}, {"+v", 0, 12}, {"and", 0, 12}, {"by", 0, 12}, {"a", 0, 12}, {"- *", 2, 12}, {"not or v", 4, 12}, {"v+*v", 2, 12}, {"v and or v", 6, 12}, {"(*v)", 1, 12}, {"()", 1, 12}, {"(v v)", 3, 12}, {"(v window)", 3, 12}, {"(v<1<2)", 4, 12}, {"- not v", 2, 12}, {"v + not v", 4, 12}, {"(count)", 1, 12}, {"sum(v)", 0, 12},
		{strings.Repeat("-", 20) + "v", 0, 34}, {strings.Repeat("-", 21) + "v", 1, 34}, {"k*(" + strings.Repeat("-", 19) + "v)", 1, 34}, {sum(21), 39, 34}, {sum(22), 39, 34}, {"not " + sum(20), 0, 34}, {"((" + strings.Repeat("-", 20) + "v *", 2, 34}, {strings.Repeat("not ", 20) + "v * *", 84, 12},
		{"(" + sum(15) + ")+(" + sum(15) + "+-v)", 31, 4}, {"(" + sum(15) + ")*(" + sum(14) + "+--v)", 31, 4}, {"(" + sum(16) + ")<(" + sum(15) + ")", 33, 4}, {"(" + sum(19) + ")-(" + sum(19) + ")", 39, 4}, {"-((" + sum(15) + ")+(" + sum(14) + "+-v))", 0, 4},
	}
}

// P9.1: the errors of exprs.Parse, in an argument and in a condition, at the place of their tokens.
func TestErrorsOfExpressions(t *testing.T) {
	for _, x := range badExpressions() {
		for _, front := range []string{"select sum(", "select min( ", "select\nmax\n(\n", "select count(*) from a where ", "select max(v) from a join b\nwhere  ", "select sum((v)) from d union a union c where("} {
			behind := ")"
			if strings.HasSuffix(front, "where(") {
				behind = ") window tumble 5"
			} else if strings.Contains(front, "where") {
				behind = " window tumble 5"
			} else {
				behind = ") from c where v window session 5"
			}
			s := front + x.s + behind
			compare(t, s)
			if x.code == 0 {
				if _, n, e := Parse(s); n != len(s) || e != 0 {
					t.Errorf("Parse(%q) = %d, %d", s, n, e)
				}
				continue
			}
			expectError(t, s, len(front)+x.at, x.code)
			expectError(t, s+" ) v ) v", len(front)+x.at, x.code)
		}
	}
	// The ends of texts, and what stands behind an expression.
	for _, s := range []string{"-", "(", "((v)", "v +", "v <", "not", "v and", "(v", "- - ("} {
		for _, front := range []string{"select sum(", "select max((k)and ", "select count(*) from a where ", "select sum(v) from a join b where k and "} {
			expectError(t, front+s, len(front)+len(s), 12)
			expectError(t, front+s+" \n ", len(front)+len(s)+3, 12)
			compare(t, front+s)
		}
	}
	for _, x := range []struct {
		s  string
		at int
	}{
		{"select sum(v < 1 < 2) from a window tumble 5", 17}, {"select sum(v 2) from a window tumble 5", 13}, {"select sum(v not v) from a window tumble 5", 13}, {"select sum(v window tumble 5", 13},
		{"select sum((v)(v)) from a window tumble 5", 14}, {"select count(*) from a where v < 1 < 2 window tumble 5", 35}, {"select count(*) from a where v) window tumble 5", 30}, {"select count(*) from a where (v window tumble 5", 32}, {"select count(*) from a where v not window tumble 5", 31},
		{"select count(*) from a where v and window tumble 5", 35}, {"select count(*) from a where v = 1 = window tumble 5", 35}, {"select sum(v)) from a window tumble 5", 13},
	} {
		expectError(t, x.s, x.at, 12)
		compare(t, x.s)
	}
}

// P9.1: names that were there before.
func TestNamesTwice(t *testing.T) {
	names := []string{"a", "b", "c", "d"}
	head := "select count(*) from "
	for _, first := range names {
		for _, second := range names {
			join, union := head+first+" join "+second, head+first+" union "+second
			if first == second {
				expectError(t, join, len(join)-1, 43)
				expectError(t, join+" window slide 0", len(join)-1, 43)
				expectError(t, union, len(union)-1, 43)
				expectError(t, union+" window tumble 5", len(union)-1, 43)
				expectError(t, union+" union "+first+" !", len(union)+9, 32)
				continue
			}
			sources := []int{int(first[0] - 'a'), int(second[0] - 'a')}
			expectQuery(t, join+" window tumble 5", api.Query{Agg: 1, Sources: sources, Join: true, Window: api.Window{Kind: 1, Size: 5}, Late: 1})
			expectQuery(t, union+" window tumble 5", api.Query{Agg: 1, Sources: sources, Window: api.Window{Kind: 1, Size: 5}, Late: 1})
		}
	}
	// Of all lists of up to five names: at the first one that was there before.
	lists := [][]string{{}}
	for range 5 {
		longer := [][]string{}
		for _, list := range lists {
			for _, name := range names {
				l := append(slices.Clone(list), name)
				longer = append(longer, l)
				expectNames(t, head, l)
			}
		}
		lists = longer
	}
}

// expectNames checks a union of some names.
func expectNames(t *testing.T, head string, names []string) {
	t.Helper()
	s, twice := head+strings.Join(names, " union ")+" where v window tumble 5", -1
	sources := []int{}
	for i, name := range names {
		if twice < 0 && slices.Contains(names[:i], name) {
			twice = len(head) + 8*i
		}
		sources = append(sources, int(name[0]-'a'))
	}
	if twice >= 0 {
		expectError(t, s, twice, 43)
		return
	}
	place := len(s) - len("v window tumble 5")
	expectQuery(t, s, api.Query{Agg: 1, Sources: sources, Where: []api.Node{{Kind: 4, At: place}}, Window: api.Window{Kind: 1, Size: 5}, Late: 1})
}

// P9.1: windows behind a join.
func TestWindowsOfJoins(t *testing.T) {
	for _, front := range []string{"select count(*) from a join b window ", "select max(v) from d join c where k<2 window\n"} {
		for _, behind := range []string{"slide", "session", "slide 10 every 5", "session 5", "slide 0 every 0", "session 0", "slide v", "session slide", "slide 10 every 5 by key late side", "session 5 v v"} {
			expectError(t, front+behind, len(front), 8)
			compare(t, front+behind)
		}
		for _, x := range []choice{
			{"", 0, 12}, {"every", 0, 12}, {"5", 0, 12}, {"window", 0, 12}, {"slide !", 6, 32}, {"session windows", 8, 32}, {"tumble", 6, 12}, {"tumble slide", 7, 12}, {"tumble 0", 7, 16}, {"tumble 5 slide", 9, 38},
		} {
			expectError(t, front+x.s, len(front)+x.at, x.code)
			compare(t, front+x.s)
		}
		if q, n, e := Parse(front + "tumble 5"); !q.Join || q.Window != (api.Window{Kind: 1, Size: 5}) || n != len(front)+8 || e != 0 {
			t.Errorf("Parse(%q) = %+v, %d, %d", front+"tumble 5", q, n, e)
		}
	}
	expectError(t, "select count(*) from a join a window slide 5 every 5", 28, 43)
	expectError(t, "select count(*) from a union b window slide 5", 45, 12)
}

// P9.1: sizes at their limits, and on both sides of them, in windows of each kind.
func TestSizes(t *testing.T) {
	const head = "select count(*) from a "
	for _, x := range []struct {
		number string
		size   int64
	}{
		{"1", 1}, {"2", 2}, {"01", 1}, {"0000000000000000000000000001", 1}, {"60", 60}, {"1073741823", 1<<30 - 1}, {"1073741824", 1 << 30}, {"0001073741824", 1 << 30},
		{"0", 0}, {"00", 0}, {"1073741825", 0}, {"2147483648", 0}, {"4294967296", 0}, {"4294967297", 0}, {"9223372036854775807", 0}, {"09223372036854775807", 0},
	} {
		for kind, word := range []string{"tumble ", "slide ", "session "} {
			front := head + "window " + word
			w := api.Window{Kind: uint8(kind + 1), Size: x.size}
			behind := ""
			if kind == 1 {
				w.Every, behind = x.size, " every "+x.number
			}
			if x.size == 0 {
				expectError(t, front+x.number+behind, len(front), 16)
				expectError(t, front+x.number, len(front), 16)
				expectError(t, front+x.number+" ) v", len(front), 16)
				continue
			}
			expectQuery(t, front+x.number+behind, api.Query{Agg: 1, Sources: []int{0}, Window: w, Late: 1})
			expectQuery(t, front+x.number+behind+" by key", api.Query{Agg: 1, Sources: []int{0}, Window: w, ByKey: true, Late: 1})
		}
		join := "select count(*) from b join a window tumble "
		if x.size == 0 {
			expectError(t, join+x.number, len(join), 16)
		} else {
			expectQuery(t, join+x.number, api.Query{Agg: 1, Sources: []int{1, 0}, Join: true, Window: api.Window{Kind: 1, Size: x.size}, Late: 1})
		}
	}
}

// P9.1: the numbers behind "every", at their limits, and on both sides of them.
func TestEvery(t *testing.T) {
	expect := func(size, every int64, valid bool) {
		t.Helper()
		front := "select count(*) from a window slide " + strconv.FormatInt(size, 10) + " every "
		s := front + strconv.FormatInt(every, 10)
		if !valid {
			expectError(t, s, len(front), 16)
			expectError(t, s+" every", len(front), 16)
			return
		}
		expectQuery(t, s, api.Query{Agg: 1, Sources: []int{0}, Window: api.Window{Kind: 2, Size: size, Every: every}, Late: 1})
		expectError(t, s+" every", len(s)+1, 38)
	}
	for size := int64(1); size <= 70; size++ {
		for every := int64(0); every <= 75; every++ {
			expect(size, every, every >= 1 && every <= size && size <= 16*every)
		}
	}
	const most = 1 << 30
	for _, x := range []struct {
		size, every int64
		valid       bool
	}{
		{most, most, true}, {most, most + 1, false}, {most, most - 1, true}, {most, most / 16, true}, {most, most/16 - 1, false}, {most, most/16 + 1, true}, {most - 1, most / 16, true}, {most - 1, most, false},
		{most - 16, most/16 - 1, true}, {most - 15, most/16 - 1, false}, {most, 1, false}, {most, 0, false}, {10, 1 << 60, false}, {10, 1<<63 - 1, false}, {10, 1 << 32, false}, {10, 1<<32 + 5, false}, {160, 10, true}, {161, 10, false}, {160, 9, false},
	} {
		expect(x.size, x.every, x.valid)
	}
	expectError(t, "select count(*) from a window slide 0 every 0", 36, 16)
	expectError(t, "select count(*) from a window slide 1073741825 every 1073741825", 36, 16)
	expectError(t, "select count(*) from a window slide 10 every 11 by key", 45, 16)
}

// P9.1: of several errors the first one, token by token, and those of the tokens themselves ahead of all.
func TestFirstError(t *testing.T) {
	deep := "select sum(" + strings.Repeat("-", 20) + "v)"
	sites := [][]choice{
		{{"select sum(v + 2)", 0, 0}, {"select sum(v + )", 15, 12}, {"select count(v)", 13, 12}, {deep, 11, 34}, {"select select(v)", 7, 12}},
		{{" from a join c", 0, 0}, {" from a join a", 13, 43}, {" from k union c", 6, 12}, {" union a join c", 1, 12}},
		{{" where v < 3", 0, 0}, {" where v < 3 < 4", 13, 12}, {" where " + strings.Repeat("-", 20) + "v", 7, 34}},
		{{" window tumble 60", 0, 0}, {" window slide 60 every 10", 8, 8}, {" window session 0", 8, 8}, {" window tumble 0", 15, 16}, {" window tumble 1073741825", 15, 16}, {" window by 6", 8, 12}},
		{{" by key", 0, 0}, {" by late", 4, 12}},
		{{" late side", 0, 0}, {" late key", 6, 12}},
		{{"", 0, 0}, {" v", 1, 38}, {" !", 1, 32}, {" 9223372036854775808", 1, 16}, {" late late", 1, 38}},
	}
	picks := make([]int, len(sites))
	for done := false; !done; {
		expectPicks(t, sites, picks)
		done = true
		for i := range picks {
			picks[i] = (picks[i] + 1) % len(sites[i])
			if picks[i] > 0 {
				done = false
				break
			}
		}
	}
}

// expectPicks checks the text of one choice at each site.
func expectPicks(t *testing.T, sites [][]choice, picks []int) {
	t.Helper()
	s, at, code := "", 0, api.OK
	for i, pick := range picks {
		c := sites[i][pick]
		fromTokens := strings.HasPrefix(c.s, " !") || strings.HasPrefix(c.s, " 9")
		if c.code != 0 && (code == 0 || fromTokens) {
			at, code = len(s)+c.at, c.code
		}
		s += c.s
	}
	if code != 0 {
		expectError(t, s, at, code)
	} else if _, n, e := Parse(s); n != len(s) || e != 0 {
		t.Errorf("Parse(%q) = %d, %d", s, n, e)
	}
}

// P9.1 and P9.2: samples that end at each token, and samples with a token more, another one, or one less at each place.
func TestSamplesWithOneChange(t *testing.T) {
	all := append(symbolsAndWords(), "0", "1", "5", "16", "17", "1073741824", "1073741825")
	for _, s := range samples() {
		l := texts(t, s)
		for i := range len(l) + 1 {
			front, behind := l[:i], l[i:]
			compareTexts(t, front)
			compareTexts(t, behind)
			for _, token := range all {
				compareTexts(t, append(slices.Clone(front), token))
				compareTexts(t, slices.Concat(front, []string{token}, behind))
				if i < len(l) {
					compareTexts(t, slices.Concat(front, []string{token}, behind[1:]))
				}
			}
			for j := i + 1; j <= len(l); j++ {
				compareTexts(t, slices.Concat(front, l[j:]))
				compareTexts(t, slices.Concat(front, l[i:j], l[i:]))
			}
			for j := i + 1; j < len(l); j++ {
				swapped := slices.Clone(l)
				swapped[i], swapped[j] = l[j], l[i]
				compareTexts(t, swapped)
			}
		}
	}
}

// compareTexts compares what Parse returns for a list of tokens with both forms of the grammar.
func compareTexts(t *testing.T, l []string) {
	t.Helper()
	s := strings.Join(l, " ")
	if len(s) > 400 || len(l) > 200 {
		t.Fatalf("%q is too long", s)
	}
	got := compare(t, s)
	// The patterns know nothing of the limits of numbers.
	_, _, e := Parse(s)
	if want := isQuery(l); got != want && (e != 16 || !want) {
		t.Errorf("Parse(%q) is a query: %v; want %v", s, got, want)
	}
}

// P9.2: all short lists of some tokens behind some beginnings, and in front of some ends.
func TestShortLists(t *testing.T) {
	for _, x := range []struct {
		front, alphabet, behind string
		length                  int
	}{
		{"", "select count sum ( ) * v from a", "", 5},
		{"select", "count sum ( ) * v - not", "from a window tumble 5", 5},
		{"select count ( * ) from", "a b c union join where v window", "window tumble 5", 5},
		{"select count ( * ) from a union d", "union join b a where k ( ) <", "window session 5", 4},
		{"select count ( * ) from a where", "v 1 ( ) - < + and not window", "window tumble 5", 4},
		{"select count ( * ) from a", "where v window tumble slide session every 5 1", "", 5},
		{"select sum ( v ) from a join c", "where v window tumble slide session every 5 by", "", 5},
		{"select sum ( v ) from a window", "tumble slide session every 5 1 0 by key late drop", "", 4},
		{"select sum ( v ) from a window slide 32 every 2", "by key late drop side every 2 )", "", 5},
	} {
		eachList(strings.Fields(x.alphabet), x.length, func(l []string) {
			all := append(strings.Fields(x.front), l...)
			compareTexts(t, append(all, strings.Fields(x.behind)...))
		})
	}
}

// eachList gives all lists of up to some elements.
func eachList(elements []string, length int, give func(l []string)) {
	lists := [][]string{{}}
	give(nil)
	for range length {
		longer := [][]string{}
		for _, list := range lists {
			for _, element := range elements {
				l := append(slices.Clone(list), element)
				give(l)
				longer = append(longer, l)
			}
		}
		lists = longer
	}
}

// P9.1: samples with one byte changed, left out or put in.
func TestSamplesWithOtherBytes(t *testing.T) {
	for _, s := range samples()[4:] {
		for at := range len(s) {
			compare(t, s[:at])
			compare(t, s[at:])
			compare(t, s[:at]+s[at+1:])
			for c := range 256 {
				compare(t, s[:at]+string([]byte{byte(c)})+s[at+1:])
			}
			for _, c := range " \n(!<=>a9-" {
				compare(t, s[:at]+string(c)+s[at:])
			}
		}
	}
}

// P9.1: lists that are put together by a fixed rule out of pieces of queries.
func TestListsOfPieces(t *testing.T) {
	pieces := [][]string{
		{"select", "select", "select", "select", ""}, {"count ( * )", "sum ( v )", "max ( k + 1 )", "min ( not v )", "sum ( )", "count ( v )"}, {"from", "from", "from", "from", "where"},
		{"a", "b union a", "c join a", "d union a union c union b", "a join a", "b union c union b", "union"}, {"", "where v", "where k < 2 and v", "where ( ( t ) )", "", "where not v", "where", "where v )"},
		{"window", "window", "window", "window", "window window"}, {"tumble 5", "slide 16 every 1", "session 60", "tumble 7", "tumble 60", "slide 17 every 1", "tumble 0", "slide 5", "session"}, {"", "by key", "", "by key", "by", "key"}, {"", "late side", "late drop", "", "late"}, {"", "", "", "", "v", "by key"},
	}
	state := uint32(1)
	queries := 0
	for range 60000 {
		l := []string{}
		for _, some := range pieces {
			state = state*1664525 + 1013904223
			l = append(l, strings.Fields(some[int(state>>16)%len(some)])...)
		}
		compareTexts(t, l)
		if _, _, e := Parse(strings.Join(l, " ")); e == 0 {
			queries++
		}
	}
	if queries < 1000 {
		t.Errorf("only %d of the texts are queries", queries)
	}
}

// P9.2: each node stands where its token does, and each token of an expression that is no bracket has one.
func TestPlaces(t *testing.T) {
	kinds := map[uint8]string{2: "k", 3: "t", 4: "v", 5: "-", 6: "not", 7: "*", 8: "+", 9: "-", 10: "<<", 11: ">>", 12: "<", 13: "<=", 14: ">", 15: ">=", 16: "=", 17: "!=", 18: "and", 19: "or"}
	l := append(samples(), "select sum(- 7*k<<2>>1+t-v) from a where not v<1 and k<=2 or t>3 and (v>=4 or not k=5)and v!=60 window slide 7 every 7")
	for _, s := range l {
		q, _, e := Parse(s)
		if e != 0 {
			t.Fatalf("Parse(%q) = %d", s, e)
		}
		for _, x := range [][]api.Node{q.Arg, q.Where} {
			seen := map[int]bool{}
			for _, node := range x {
				text := kinds[node.Kind]
				if node.Kind == 1 {
					text = strconv.FormatInt(node.N, 10)
				}
				if !strings.HasPrefix(s[node.At:], text) || seen[node.At] {
					t.Errorf("Parse(%q) has the node %+v", s, node)
				}
				seen[node.At] = true
			}
		}
		where := strings.Index(s, "where")
		for _, node := range q.Where {
			if node.At < where+5 || node.At > strings.Index(s, "window") {
				t.Errorf("Parse(%q) has the node %+v in its condition", s, node)
			}
		}
		for _, node := range q.Arg {
			if node.At < 11 || node.At > strings.Index(s, "from") {
				t.Errorf("Parse(%q) has the node %+v in its argument", s, node)
			}
		}
	}
}

// tree is an expression as a tree.
type tree struct {
	kind  uint8
	parts []*tree
}

// trees returns all trees with some nodes, by how many they have.
func trees(size int) [][]*tree {
	all := [][]*tree{nil, {}}
	for kind := uint8(1); kind <= 4; kind++ {
		all[1] = append(all[1], &tree{kind: kind})
	}
	for n := 2; n <= size; n++ {
		l := []*tree{}
		for _, part := range all[n-1] {
			l = append(l, &tree{5, []*tree{part}}, &tree{6, []*tree{part}})
		}
		for m := 1; m < n-1; m++ {
			for _, a := range all[m] {
				for _, b := range all[n-1-m] {
					for kind := uint8(7); kind <= 19; kind++ {
						l = append(l, &tree{kind, []*tree{a, b}})
					}
				}
			}
		}
		all = append(all, l)
	}
	return all
}

// writer writes tokens, with blanks by a rule.
type writer struct {
	s     string
	count int
}

// token writes a token, and returns where it stands.
func (w *writer) token(text string) int {
	w.count++
	w.s += []string{" ", "\n", "  ", " ", " \n"}[w.count%5] + text
	return len(w.s) - len(text)
}

// tokens writes some tokens.
func (w *writer) tokens(s string) {
	for _, text := range strings.Fields(s) {
		w.token(text)
	}
}

// expr writes an expression with brackets around each part that has parts, and returns its nodes.
func (w *writer) expr(x *tree) []api.Node {
	texts := []string{"", "6", "k", "t", "v", "-", "not", "*", "+", "-", "<<", ">>", "<", "<=", ">", ">=", "=", "!=", "and", "or"}
	node := api.Node{Kind: x.kind}
	if x.kind == 1 {
		node.N = 6
	}
	if len(x.parts) < 2 {
		node.At = w.token(texts[x.kind])
		if len(x.parts) == 0 {
			return []api.Node{node}
		}
		l := w.part(x.parts[0])
		node.A = len(l) - 1
		return append(l, node)
	}
	l := w.part(x.parts[0])
	node.At = w.token(texts[x.kind])
	node.A = len(l) - 1
	for _, second := range w.part(x.parts[1]) {
		if count, _ := nodes.Parts(second.Kind); count > 0 {
			second.A += node.A + 1
			if count > 1 {
				second.B += node.A + 1
			}
		}
		l = append(l, second)
	}
	node.B = len(l) - 1
	return append(l, node)
}

// part writes a part of an expression.
func (w *writer) part(x *tree) []api.Node {
	if len(x.parts) == 0 {
		return w.expr(x)
	}
	w.token("(")
	l := w.expr(x)
	w.token(")")
	return l
}

// P9.2: all expressions of up to four nodes, as arguments and as conditions.
func TestSmallExpressions(t *testing.T) {
	for _, l := range trees(4) {
		for i, x := range l {
			q := api.Query{Agg: uint8(2 + i%3), Sources: []int{i % 4}, Window: api.Window{Kind: 3, Size: int64(i + 1)}, Late: 1}
			w := &writer{count: i}
			w.tokens("select " + []string{"sum", "min", "max"}[i%3] + " (")
			q.Arg = w.expr(x)
			w.tokens(") from " + "abcd"[i%4:i%4+1] + " where")
			q.Where = w.expr(l[len(l)-1-i])
			w.tokens("window session " + strconv.Itoa(i+1))
			expectQuery(t, w.s, q)
		}
	}
}

// P9.2: all queries with some of each part, written by the grammar.
func TestSmallQueries(t *testing.T) {
	expressions := slices.Concat(trees(2)...)
	expressions = append(expressions, nil)
	sources := [][]int{{0}, {3}, {2, 1}, {0, 3, 1}, {3, 2, 1, 0}, {1, 0, -1}, {2, 3, -1}}
	windows := []api.Window{{Kind: 1, Size: 1}, {Kind: 1, Size: 1 << 30}, {Kind: 2, Size: 16, Every: 1}, {Kind: 2, Size: 90, Every: 90}, {Kind: 3, Size: 7}}
	for _, arg := range expressions {
		for _, where := range expressions {
			for i, list := range sources {
				for j, window := range windows {
					if list[len(list)-1] < 0 && window.Kind > 1 {
						continue
					}
					for k := range 6 {
						writeQuery(t, arg, where, list, window, k/3 == 1, k%3, i+j+k)
					}
				}
			}
		}
	}
}

// writeQuery writes a query, where -1 behind the sources means a join, and late is 1 for "late drop" and 2 for "late side", and checks what is parsed.
func writeQuery(t *testing.T, arg, where *tree, sources []int, window api.Window, byKey bool, late, count int) {
	t.Helper()
	q := api.Query{Agg: 1, Sources: sources, Window: window, ByKey: byKey, Late: uint8(max(late, 1))}
	w := &writer{count: count}
	if arg == nil {
		w.tokens("select count ( * )")
	} else {
		q.Agg = uint8(2 + count%3)
		w.tokens("select " + []string{"sum", "min", "max"}[count%3] + " (")
		q.Arg = w.expr(arg)
		w.token(")")
	}
	between := "union"
	if last := len(sources) - 1; sources[last] < 0 {
		between, q.Join, q.Sources = "join", true, sources[:last]
	}
	for i, source := range q.Sources {
		w.token([]string{"from", between, between, between}[i])
		w.token("abcd"[source : source+1])
	}
	if where != nil {
		w.token("where")
		q.Where = w.expr(where)
	}
	w.tokens("window " + []string{"", "tumble", "slide", "session"}[window.Kind] + " " + strconv.FormatInt(window.Size, 10))
	if window.Kind == 2 {
		w.tokens("every " + strconv.FormatInt(window.Every, 10))
	}
	if byKey {
		w.tokens("by key")
	}
	w.tokens([]string{"", "late drop", "late side"}[late])
	expectQuery(t, w.s, q)
}

// apart reports whether two tokens need a blank between them.
func apart(a, b string) bool {
	last, first := a[len(a)-1], b[0]
	letter := func(c byte) bool { return c >= 'a' && c <= 'z' }
	digit := func(c byte) bool { return c >= '0' && c <= '9' }
	return letter(last) && letter(first) || digit(last) && digit(first) || strings.IndexByte("<>!=", last) >= 0 && strings.IndexByte("<>!=", first) >= 0
}

// spread returns tokens as a text with blanks by a rule, and the places of the tokens, with the end behind them.
func spread(l []string, rule func(i int) string) (string, []int) {
	s, places := "", []int{}
	for i, text := range l {
		blanks := rule(i)
		if blanks == "" && i > 0 && apart(l[i-1], text) {
			blanks = " "
		}
		s += blanks
		places = append(places, len(s))
		s += text
	}
	s += rule(len(l))
	return s, append(places, len(s))
}

// P9.2: other blanks change nothing but places, in queries and in texts that are none.
func TestBlanks(t *testing.T) {
	rules := []func(i int) string{
		func(i int) string { return "" },
		func(i int) string { return " " },
		func(i int) string { return "\n" },
		func(i int) string { return []string{"", " ", "\n \n", "  "}[i%4] },
		func(i int) string { return []string{" \n", "", "   "}[i%3] },
	}
	l := append(samples(), "", "select count(*) from a", "select count(*) from a join a window tumble 5", "select sum(v from a", "select sum(v + ) from a", "select count(*) from a where < window", "select count(*) from a join b window slide 5",
		"select count(*) from a window slide 17 every 1 by key", "select count(*) from a window tumble 0", "select count(*) from a window tumble 5 5", "select count(*) from a window tumble 5 by late", "select sum("+strings.Repeat("-", 20)+"v) from a", "select sum(< =v) from a")
	for _, s := range l {
		list := texts(t, s)
		first, places := spread(list, rules[1])
		q, n, e := Parse(first)
		for _, rule := range rules {
			other, others := spread(list, rule)
			p, m, code := Parse(other)
			if code != e || slices.Index(places, n) != slices.Index(others, m) {
				t.Errorf("Parse(%q) = %d, %d, but Parse(%q) = %d, %d", first, n, e, other, m, code)
			}
			moved := q
			moved.Arg, moved.Where = slices.Clone(q.Arg), slices.Clone(q.Where)
			for i := range moved.Arg {
				moved.Arg[i].At = others[slices.Index(places, q.Arg[i].At)]
			}
			for i := range moved.Where {
				moved.Where[i].At = others[slices.Index(places, q.Where[i].At)]
			}
			if !equal(p, moved) {
				t.Errorf("Parse(%q) = %+v, but Parse(%q) = %+v", first, q, other, p)
			}
		}
	}
}

// P9.2: without "by key" and "late side" it is the query without them.
func TestWithoutKeyAndLate(t *testing.T) {
	for _, s := range samples() {
		short := s
		for _, tail := range []string{"late side", "late drop", "late\ndrop", "by key"} {
			short = strings.ReplaceAll(short, tail, "")
		}
		short = strings.TrimRight(short, " \n")
		base, n, e := Parse(short)
		if n != len(short) || e != 0 || base.ByKey || base.Late != 1 {
			t.Fatalf("Parse(%q) = %+v, %d, %d", short, base, n, e)
		}
		for _, x := range []struct {
			tail  string
			byKey bool
			late  uint8
		}{
			{"", false, 1}, {" by key", true, 1}, {" late drop", false, 1}, {" late side", false, 2}, {" by key late drop", true, 1}, {" by key late side", true, 2},
		} {
			want := base
			want.ByKey, want.Late = x.byKey, x.late
			expectQuery(t, short+x.tail, want)
		}
	}
}

// P9.1: numbers and truth values may stand in an argument and in a condition, and need not fit: that they do is not asked for here.
func TestKindsDoNotMatter(t *testing.T) {
	for _, s := range []string{"not v", "v < 1", "v + (k < 2)", "-(not v)", "1 and 2", "not 3 + 4"} {
		text := "select sum(" + s + ") from a where " + s + " window tumble 5"
		q, n, e := Parse(text)
		if n != len(text) || e != 0 || clauses.Check(q) != 0 || len(q.Arg) < 2 || len(q.Arg) != len(q.Where) {
			t.Errorf("Parse(%q) = %+v, %d, %d", text, q, n, e)
		}
	}
}

// overwrite sets all elements of a list.
func overwrite[T any](l []T, x T) {
	for i := range l {
		l[i] = x
	}
}

// P1 (R2): results share no memory with each other, and nothing is kept.
func TestResultsAreNewMemory(t *testing.T) {
	for _, s := range samples() {
		want, _, _ := wanted(s)
		q, _, _ := Parse(s)
		p, _, _ := Parse(s)
		overwrite(q.Arg[:cap(q.Arg)], api.Node{Kind: 77, N: 78, A: 79, B: 80, At: 81})
		if !slices.Equal(q.Where, want.Where) {
			t.Errorf("Parse(%q) has parts that share memory", s)
		}
		overwrite(q.Where[:cap(q.Where)], api.Node{Kind: 82, N: 83, A: 84, B: 85, At: 86})
		overwrite(q.Sources[:cap(q.Sources)], 99)
		if !equal(p, want) {
			t.Errorf("Parse(%q) returned %+v, which was changed to %+v", s, want, p)
		}
		expectQuery(t, s, want)
	}
}

// P1: all kinds of arguments, however long or odd.
func TestOddTexts(t *testing.T) {
	for _, x := range []choice{
		{strings.Repeat("(", 1000000), 0, 4}, {strings.Repeat("select ", 100000), 0, 4}, {"select sum(" + strings.Repeat("(", 189), 200, 12}, {"select sum(" + strings.Repeat("-", 189), 200, 12}, {"select sum(" + strings.Repeat("(", 300), 208, 4},
		{"select count(*) from a where " + strings.Repeat("not ", 90), 389, 12}, {"\x00", 0, 32}, {"\xff\xfe", 0, 32}, {"\u00a0", 0, 32}, {"select\u00a0count(*) from a", 6, 32}, {"SELECT count(*) from a", 0, 32}, {"select count(*) from a window tumble \u0665", 37, 32},
		{"select count(*) from a window tumble 5\r\n", 38, 32}, {"select\tcount(*)", 6, 32}, {"select count(*) from a window tumble 5.5", 38, 32}, {"select count(*) from a window tumble 0x5", 38, 32}, {"select count(*) from a window tumble 1e3", 38, 32},
	} {
		expectError(t, x.s, x.at, x.code)
	}
}
