package exprs

import (
	"math"
	"slices"
	"strconv"
	"strings"
	"testing"

	"tailwater/api"
	"tailwater/lexer"
	"tailwater/nodes"
)

// The tests read tokens with a stack of what waits for its last part, by ranks of operators: the package has a method for each line of the grammar.

// tree is an expression: token is the index of its node's token.
type tree struct {
	kind      uint8
	n         int64
	at, token int
	parts     []*tree
}

// behind returns a list with the nodes of a tree behind it, in their order.
func (x *tree) behind(l []api.Node) []api.Node {
	node := api.Node{Kind: x.kind, N: x.n, At: x.at}
	for i, part := range x.parts {
		l = part.behind(l)
		if i == 0 {
			node.A = len(l) - 1
		} else {
			node.B = len(l) - 1
		}
	}
	return append(l, node)
}

// list returns the nodes of a tree.
func (x *tree) list() []api.Node { return x.behind(nil) }

// depth returns how deep a tree is.
func (x *tree) depth() int {
	d := 0
	for _, part := range x.parts {
		d = max(d, part.depth())
	}
	return d + 1
}

// binary is the texts of the kinds from 7 on, ranks how tight each holds its parts.
var (
	binary = []string{"*", "+", "-", "<<", ">>", "<", "<=", ">", ">=", "=", "!=", "and", "or"}
	ranks  = []int{7, 6, 6, 5, 5, 4, 4, 4, 4, 4, 4, 2, 1}
)

const (
	rankNot     = 3
	rankCompare = 4
	rankNeg     = 8
)

// waiting is an operator that waits for what is behind it, or a bracket, which has the kind 0.
type waiting struct {
	kind  uint8
	rank  int
	token int
}

// reading is what has been read so far.
type reading struct {
	l     []api.Token
	done  []*tree
	stack []waiting
}

// top returns the kind and the rank of what waits last: 0 and 0 if nothing does.
func (r *reading) top() (uint8, int) {
	if len(r.stack) == 0 {
		return 0, 0
	}
	last := r.stack[len(r.stack)-1]
	return last.kind, last.rank
}

// leaf returns the tree of a token, or nil.
func (r *reading) leaf(i int) *tree {
	s := r.l[i].Text
	x := &tree{at: r.l[i].At, token: i}
	switch {
	case s == "k" || s == "t" || s == "v":
		x.kind = uint8(2 + strings.Index("ktv", s))
	case s[0] >= '0' && s[0] <= '9':
		x.kind = 1
		x.n, _ = strconv.ParseInt(s, 10, 64)
	default:
		return nil
	}
	return x
}

// operand takes a token where an operand has to begin, and returns whether it may stand there, and whether it is a whole operand.
func (r *reading) operand(i int) (bool, bool) {
	if i == len(r.l) {
		return false, false
	}
	if x := r.leaf(i); x != nil {
		r.done = append(r.done, x)
		return true, true
	}
	_, rank := r.top()
	switch s := r.l[i].Text; {
	case s == "(":
		r.stack = append(r.stack, waiting{token: i})
	case s == "-":
		r.stack = append(r.stack, waiting{kind: 5, rank: rankNeg, token: i})
	case s == "not" && rank <= rankNot:
		r.stack = append(r.stack, waiting{kind: 6, rank: rankNot, token: i})
	default:
		return false, false
	}
	return true, false
}

// make makes the trees of all that waits with at least a rank, up to a bracket, and returns an error and its token.
func (r *reading) make(rank int) (int, api.Errno) {
	for {
		kind, held := r.top()
		if kind == 0 || held < rank {
			return 0, 0
		}
		last := r.stack[len(r.stack)-1]
		r.stack = r.stack[:len(r.stack)-1]
		count := 1
		if kind >= 7 {
			count = 2
		}
		x := &tree{kind: kind, at: r.l[last.token].At, token: last.token, parts: slices.Clone(r.done[len(r.done)-count:])}
		r.done = append(r.done[:len(r.done)-count], x)
		if len(x.list()) > 60 {
			return x.token, 4
		}
		if x.depth() > 20 {
			return x.token, 34
		}
	}
}

// operator returns the kind and the rank of the operator at a token behind an operand, or 0 and 0 if none belongs there.
func (r *reading) operator(i int) (uint8, int) {
	if i == len(r.l) {
		return 0, 0
	}
	k := slices.Index(binary, r.l[i].Text)
	if k < 0 {
		return 0, 0
	}
	if ranks[k] == rankCompare {
		// Up to the last bracket, the tightest of what waits with at most this rank must be no comparison.
		for j := len(r.stack) - 1; j >= 0 && r.stack[j].kind > 0; j-- {
			if r.stack[j].rank == rankCompare {
				return 0, 0
			}
			if r.stack[j].rank < rankCompare {
				break
			}
		}
	}
	return uint8(7 + k), ranks[k]
}

// wantedTree returns the tree of what is parsed and the token behind it, or an error and its token.
func wantedTree(l []api.Token, at int) (*tree, int, api.Errno) {
	r := &reading{l: l}
	for i, open := at, true; ; i++ {
		if open {
			stands, whole := r.operand(i)
			if !stands {
				return nil, i, 12
			}
			open = !whole
			continue
		}
		kind, rank := r.operator(i)
		if token, e := r.make(rank); e != 0 {
			return nil, token, e
		}
		switch {
		case kind > 0:
			r.stack = append(r.stack, waiting{kind: kind, rank: rank, token: i})
			open = true
		case len(r.stack) == 0:
			return r.done[0], i, 0
		case i < len(l) && l[i].Text == ")":
			r.stack = r.stack[:len(r.stack)-1]
		default:
			return nil, i, 12
		}
	}
}

// wantedParse returns what Parse has to return for tokens that are all valid.
func wantedParse(l []api.Token, at int) ([]api.Node, int, api.Errno) {
	if len(l) > 200 {
		return nil, 0, 4
	}
	if at < 0 || at > len(l) {
		return nil, 0, 2
	}
	x, n, e := wantedTree(l, at)
	if e != 0 {
		return nil, n, e
	}
	return x.list(), n, 0
}

// shape returns an expression with brackets around each node that has parts, "neg" and "not" in front.
func shape(l []api.Node) string {
	stack := []string{}
	for _, node := range l {
		end := len(stack)
		switch k := node.Kind; {
		case k == 1:
			stack = append(stack, strconv.FormatInt(node.N, 10))
		case k <= 4:
			stack = append(stack, "ktv"[k-2:k-1])
		case k <= 6:
			stack[end-1] = "(" + []string{"neg", "not"}[k-5] + " " + stack[end-1] + ")"
		default:
			stack[end-2] = "(" + stack[end-2] + " " + binary[k-7] + " " + stack[end-1] + ")"
			stack = stack[:end-1]
		}
	}
	return strings.Join(stack, ", ")
}

// token returns the token of a text that stands at an index.
func token(s string, at int) api.Token {
	kind := uint8(3)
	if s[0] >= '0' && s[0] <= '9' {
		kind = 1
	} else if s[0] >= 'a' && s[0] <= 'z' {
		kind = 2
	}
	return api.Token{Kind: kind, Text: s, At: at}
}

// row returns tokens with some texts, which stand at 0, 2, 4 and so on.
func row(texts ...string) []api.Token {
	l := make([]api.Token, len(texts))
	for i, s := range texts {
		l[i] = token(s, 2*i)
	}
	return l
}

// tokens returns tokens of a text that has blanks between any two of them, as row does.
func tokens(s string) []api.Token { return row(strings.Fields(s)...) }

// again returns a text some times.
func again(s string, count int) string { return strings.Repeat(s+" ", count) }

// texts returns the texts of tokens.
func texts(l []api.Token) string {
	s := []string{}
	for _, x := range l {
		s = append(s, x.Text)
	}
	return strings.Join(s, " ")
}

// expectError checks that Parse returns an error and an index, and nothing beside them.
func expectError(t *testing.T, l []api.Token, at, want int, code api.Errno) {
	t.Helper()
	if x, n, e := Parse(l, at); len(x) > 0 || n != want || e != code {
		t.Errorf("Parse(%.300q, %d) = %v, %d, %d; want %d, %d", texts(l), at, x, n, e, want, code)
	}
}

// expectShape checks what is parsed of all tokens of a text.
func expectShape(t *testing.T, s, want string) {
	t.Helper()
	l := tokens(s)
	x, n, e := Parse(l, 0)
	if e != 0 || n != len(l) || shape(x) != want {
		t.Errorf("Parse(%q, 0) = %q, %d, %d; want %q", s, shape(x), n, e, want)
	}
	compareParse(t, l, 0)
}

// compareParse compares what Parse returns for valid tokens with the chapter.
func compareParse(t *testing.T, l []api.Token, at int) {
	t.Helper()
	want, behind, code := wantedParse(l, at)
	x, n, e := Parse(l, at)
	if !slices.Equal(x, want) || n != behind || e != code {
		t.Errorf("Parse(%q, %d) = %v, %d, %d; want %v, %d, %d", texts(l), at, x, n, e, want, behind, code)
	}
}

// P5.1: the chapter's examples.
func TestParseExamples(t *testing.T) {
	for _, x := range []struct {
		s    string
		want []api.Node
	}{
		{"v + 2 * k", []api.Node{{Kind: 4}, {Kind: 1, N: 2, At: 4}, {Kind: 2, At: 8}, {Kind: 7, A: 1, B: 2, At: 6}, {Kind: 8, A: 0, B: 3, At: 2}}},
		{"( v + 2 ) * k", []api.Node{{Kind: 4, At: 2}, {Kind: 1, N: 2, At: 6}, {Kind: 8, A: 0, B: 1, At: 4}, {Kind: 2, At: 12}, {Kind: 7, A: 2, B: 3, At: 10}}},
	} {
		l := tokens(x.s)
		if got, n, e := Parse(l, 0); !slices.Equal(got, x.want) || n != len(l) || e != 0 {
			t.Errorf("Parse(%q, 0) = %v, %d, %d; want %v", x.s, got, n, e, x.want)
		}
	}
	expectShape(t, "not v = 1 and k < 2", "((not (v = 1)) and (k < 2))")
	expectError(t, tokens("v + )"), 0, 2, 12)
	if x, n, e := Parse(tokens("v < 1 < 2"), 0); shape(x) != "(v < 1)" || n != 3 || e != 0 {
		t.Errorf("v < 1 < 2 is parsed as %v, %d, %d", x, n, e)
	}
}

// P5.1: each line of the grammar.
func TestLines(t *testing.T) {
	for _, x := range []struct{ s, want string }{
		{"7", "7"}, {"007", "7"}, {"0", "0"}, {"9223372036854775807", "9223372036854775807"}, {"k", "k"}, {"t", "t"}, {"v", "v"},
		{"( v )", "v"}, {"( ( ( 3 ) ) )", "3"}, {"( v + k )", "(v + k)"}, {"( ( v ) + ( k ) )", "(v + k)"},
		{"- v", "(neg v)"}, {"- - v", "(neg (neg v))"}, {"- 5", "(neg 5)"}, {"- ( - v )", "(neg (neg v))"}, {"- ( v + k )", "(neg (v + k))"},
		{"- v * k", "((neg v) * k)"}, {"v * - k", "(v * (neg k))"}, {"- v + - k", "((neg v) + (neg k))"}, {"v - - - k", "(v - (neg (neg k)))"},
		{"v * k * t", "((v * k) * t)"}, {"v * ( k * t )", "(v * (k * t))"}, {"v - k - t", "((v - k) - t)"}, {"v - ( k - t )", "(v - (k - t))"},
		{"v - k + t", "((v - k) + t)"}, {"v + k - t", "((v + k) - t)"}, {"v << k >> t", "((v << k) >> t)"}, {"v >> k << t", "((v >> k) << t)"},
		{"v + k * t", "(v + (k * t))"}, {"v * k + t", "((v * k) + t)"}, {"v << k + t", "(v << (k + t))"}, {"v + k << t", "((v + k) << t)"},
		{"v << k < t", "((v << k) < t)"}, {"v < k >> t", "(v < (k >> t))"}, {"v < k", "(v < k)"}, {"v <= k", "(v <= k)"}, {"v > k", "(v > k)"},
		{"v >= k", "(v >= k)"}, {"v = k", "(v = k)"}, {"v != k", "(v != k)"}, {"( v < k ) < t", "((v < k) < t)"}, {"v < ( k < t )", "(v < (k < t))"},
		{"not v", "(not v)"}, {"not not v", "(not (not v))"}, {"not v < k", "(not (v < k))"}, {"not - v", "(not (neg v))"}, {"not ( v < k )", "(not (v < k))"},
		{"( not v ) < k", "((not v) < k)"}, {"not v + k", "(not (v + k))"}, {"not not v = k * t", "(not (not (v = (k * t))))"},
		{"not v and k", "((not v) and k)"}, {"not ( v and k )", "(not (v and k))"}, {"v and not k", "(v and (not k))"}, {"v or not k or t", "((v or (not k)) or t)"},
		{"v and k and t", "((v and k) and t)"}, {"v or k or t", "((v or k) or t)"}, {"v and k or t", "((v and k) or t)"}, {"v or k and t", "(v or (k and t))"},
		{"v < 1 and k < 2 or t < 3", "(((v < 1) and (k < 2)) or (t < 3))"}, {"v < 1 or k < 2 and t < 3", "((v < 1) or ((k < 2) and (t < 3)))"},
		{"- v << 2", "((neg v) << 2)"}, {"( v and k ) * t", "((v and k) * t)"}, {"- ( not v )", "(neg (not v))"}, {"v * ( not k )", "(v * (not k))"},
		{"1 or 2 and not 3 = 4 << 5 + 6 * - 7", "(1 or (2 and (not (3 = (4 << (5 + (6 * (neg 7))))))))"},
		{"- 7 * 6 + 5 << 4 = 3 and 2 or 1", "(((((((neg 7) * 6) + 5) << 4) = 3) and 2) or 1)"},
	} {
		expectShape(t, x.s, x.want)
	}
}

// P5.1: each two operators, from the left, or by their lines, in either order; and each three.
func TestOperatorsInEitherOrder(t *testing.T) {
	for i, a := range binary {
		expectShape(t, "v "+a+" k", "(v "+a+" k)")
		for j, b := range binary {
			s := "v " + a + " k " + b + " t"
			left, right := "((v "+a+" k) "+b+" t)", "(v "+a+" (k "+b+" t))"
			switch {
			case ranks[i] == 4 && ranks[j] == 4:
				if x, n, e := Parse(tokens(s), 0); shape(x) != "(v "+a+" k)" || n != 3 || e != 0 {
					t.Errorf("%s is parsed as %q, %d, %d", s, shape(x), n, e)
				}
				expectError(t, tokens("( "+s+" )"), 0, 4, 12)
			case ranks[j] > ranks[i]:
				expectShape(t, s, right)
			default:
				expectShape(t, s, left)
			}
			for _, c := range binary {
				compareParse(t, tokens(s+" "+c+" 5"), 0)
				compareParse(t, tokens("not "+s+" "+c+" - 5"), 0)
			}
		}
	}
}

// P5.1: "not" and "-" in front of an operand, with each operator in front or behind.
func TestOperatorsInFront(t *testing.T) {
	for i, a := range binary {
		expectShape(t, "- v "+a+" - k", "((neg v) "+a+" (neg k))")
		expectShape(t, "- - v "+a+" - - k", "((neg (neg v)) "+a+" (neg (neg k)))")
		if ranks[i] > 3 {
			expectShape(t, "not v "+a+" k", "(not (v "+a+" k))")
			expectShape(t, "not not v "+a+" k", "(not (not (v "+a+" k)))")
			expectError(t, tokens("v "+a+" not k"), 0, 2, 12)
		} else {
			expectShape(t, "not v "+a+" not k", "((not v) "+a+" (not k))")
			expectShape(t, "not not v "+a+" not not k", "((not (not v)) "+a+" (not (not k)))")
		}
		expectShape(t, "v "+a+" ( not k )", "(v "+a+" (not k))")
		expectShape(t, "( not v ) "+a+" k", "((not v) "+a+" k)")
		expectShape(t, "- ( v "+a+" k )", "(neg (v "+a+" k))")
	}
	expectError(t, tokens("- not v"), 0, 1, 12)
	expectError(t, tokens("not - not v"), 0, 2, 12)
}

// P5.1: what is parsed ends at the first token that does not belong to it.
func TestParseEndsWhereItDoesNotGoOn(t *testing.T) {
	for _, word := range []string{")", "(", "window", "where", "from", "by", "not", "k", "t", "v", "5", "count", "<", "!=", "="} {
		for _, s := range []string{"v < 1", "not v = 2", "( v ) >= ( k )", "not not - 1 != 2 << 3"} {
			l := tokens(s)
			all := append(slices.Clone(l), tokens(word+" k")...)
			if x, n, e := Parse(all, 0); e != 0 || n != len(l) {
				t.Errorf("Parse(%q, 0) = %v, %d, %d; want %d", texts(all), x, n, e, len(l))
			}
			compareParse(t, all, 0)
		}
	}
	for s, want := range map[string]int{
		"v )": 1, "v k": 1, "v not k": 1, "v ( k )": 1, "( v ) ( k )": 3, "v 5": 1, "( v ) )": 3, "( v < k ) < t < 1": 7,
		"v and k < t < 1 and 2": 5, "v or not k = t = 1": 6, "v + k where t": 3, "- v not": 2, "not v not k": 2,
	} {
		if x, n, e := Parse(tokens(s), 0); e != 0 || n != want {
			t.Errorf("Parse(%q, 0) = %v, %d, %d; want %d", s, x, n, e, want)
		}
	}
}

// P5.1: parsing from an index on, with each index of some tokens; ErrForm if there is nothing behind it; ErrArg if there is no such index.
func TestParseFromAnIndexOn(t *testing.T) {
	l := tokens("select sum ( v + 2 * k ) from a where v = 3 or not ( - t < 9 ) window tumble 5")
	for at := -3; at <= len(l)+3; at++ {
		compareParse(t, l, at)
	}
	if x, n, e := Parse(l, 3); shape(x) != "(v + (2 * k))" || n != 8 || e != 0 || x[4] != (api.Node{Kind: 8, A: 0, B: 3, At: 8}) {
		t.Errorf("from 3 on: %v, %d, %d", x, n, e)
	}
	if x, n, e := Parse(l, 12); shape(x) != "((v = 3) or (not ((neg t) < 9)))" || n != 23 || e != 0 {
		t.Errorf("from 12 on: %v, %d, %d", x, n, e)
	}
	expectError(t, l, len(l), len(l), 12)
	expectError(t, nil, 0, 0, 12)
	expectError(t, []api.Token{}, 0, 0, 12)
	for _, at := range []int{math.MinInt, -200, -2, -1, len(l) + 1, 200, 201, 1 << 32, math.MaxInt} {
		expectError(t, l, at, 0, 2)
		expectError(t, nil, at, 0, 2)
	}
	expectError(t, nil, 1, 0, 2)
	// Just MaxTokens tokens, and the index behind them.
	full := tokens(again("v", 200))
	expectError(t, full, 200, 200, 12)
	expectError(t, full, 201, 0, 2)
	compareParse(t, full, 199)
}

// P5.1: ErrForm where something has to stand, and something else does, or nothing.
func TestFormIsAtTheTokenThatCannotStandThere(t *testing.T) {
	for _, x := range []struct {
		s    string
		want int
	}{
		{"", 0}, {")", 0}, {"*", 0}, {"+ v", 0}, {"<", 0}, {"and v", 0}, {"or", 0}, {"window", 0}, {"count", 0}, {"( )", 1}, {"(", 1},
		{"( (", 2}, {"( v", 2}, {"( v k", 2}, {"( v < k < t )", 4}, {"( v not", 2}, {"( ( v ) k )", 4}, {"( v + )", 3}, {"( ( v )", 4},
		{"not", 1}, {"not not", 2}, {"not )", 1}, {"not and v", 1}, {"not * v", 1}, {"not select", 1}, {"-", 1}, {"- -", 2}, {"- )", 1}, {"- + v", 1}, {"- not v", 1},
		{"v *", 2}, {"v * *", 2}, {"v * not k", 2}, {"v * )", 2}, {"v + * 2", 2}, {"v - +", 2}, {"v << <<", 2}, {"v << ", 2}, {"v < < k", 2}, {"v < not k", 2},
		{"v = = k", 2}, {"v and and k", 2}, {"v and or k", 2}, {"v and", 2}, {"v or", 2}, {"v or )", 2}, {"v or where", 2}, {"v + k * ( t - )", 7},
		{"v < 1 and k <", 6}, {"v < 1 and not", 5}, {"v + k + t +", 6}, {"v - - - ", 4}, {"( not v + ( k and t ) * not 5 )", 10}, {"v + sum ( k )", 2},
	} {
		expectError(t, tokens(x.s), 0, x.want, 12)
		compareParse(t, tokens(x.s), 0)
		// Behind other tokens it is as many tokens further.
		expectError(t, append(tokens("where ("), tokens(x.s)...), 2, x.want+2, 12)
	}
}

// P5.1: each list of up to five tokens of which most can stand side by side, and of up to three tokens from each index on.
func TestShortLists(t *testing.T) {
	all := []string{"7", "k", "(", ")", "-", "not", "*", "+", "<", "=", "and", "or"}
	var extend func(l []string, left int)
	extend = func(l []string, left int) {
		compareParse(t, row(l...), 0)
		if len(l) <= 3 {
			for at := 1; at <= len(l); at++ {
				compareParse(t, row(l...), at)
			}
		}
		if left == 0 || t.Failed() {
			return
		}
		for _, s := range all {
			extend(append(l[:len(l):len(l)], s), left-1)
		}
	}
	extend(nil, 5)
}

// dice gives numbers by a rule that is always the same.
type dice uint64

// below returns a number from 0 to n - 1.
func (d *dice) below(n int) int {
	*d = *d*6364136223846793005 + 1442695040888963407
	return int(uint64(*d)>>33) % n
}

// words returns texts of an expression that goes on with a chance that falls as it grows: most of them are read.
func (d *dice) words(left int) []string {
	if left <= 0 || d.below(8) == 0 {
		return []string{[]string{"k", "t", "v", "0", "12", "007"}[d.below(6)]}
	}
	switch d.below(9) {
	case 0:
		return append([]string{"-"}, d.words(left-1)...)
	case 1:
		return append([]string{"not"}, d.words(left-1)...)
	case 2, 3:
		return append(append([]string{"("}, d.words(left-1)...), ")")
	}
	a := d.below(left)
	l := append(d.words(a), binary[d.below(len(binary))])
	return append(l, d.words(left-1-a)...)
}

// How the parts of what grows are balanced: about as much in each, by chance, or nearly all in one of them.
const (
	even = iota
	mixed
	lean
)

// grown returns a tree of some nodes.
func (d *dice) grown(size, balance int) *tree {
	switch {
	case size == 1 && d.below(2) == 0:
		return &tree{kind: 1, n: int64(d.below(1<<30)) >> d.below(30) * int64(d.below(1<<30)), at: d.below(401)}
	case size == 1:
		return &tree{kind: uint8(2 + d.below(3)), at: d.below(401)}
	case size == 2 || d.below(8) == 0:
		return &tree{kind: uint8(5 + d.below(2)), at: d.below(401), parts: []*tree{d.grown(size-1, balance)}}
	}
	a := 1 + d.below(size-2)
	switch balance {
	case even:
		a = 1 + (size-2)/3 + d.below((size-2)/3+1)
	case lean:
		a = 1 + d.below(2)*(size-3)
	}
	return &tree{kind: uint8(7 + d.below(13)), at: d.below(401), parts: []*tree{d.grown(a, balance), d.grown(size-1-a, balance)}}
}

// written returns a list of texts with those of a tree behind it, in brackets where its rank is below the least one, and elsewhere one time in some.
func (d *dice) written(l []string, x *tree, least, some int) []string {
	if x.kind <= 4 {
		return append(l, x.bracketed(false))
	}
	rank := rankNeg
	if x.kind == 6 {
		rank = rankNot
	} else if x.kind >= 7 {
		rank = ranks[x.kind-7]
	}
	closed := rank < least || d.below(some) == 0
	if closed {
		l = append(l, "(")
	}
	switch {
	case x.kind == 5:
		l = d.written(append(l, "-"), x.parts[0], rank, some)
	case x.kind == 6:
		l = d.written(append(l, "not"), x.parts[0], rank, some)
	default:
		first := rank
		if rank == rankCompare {
			first++
		}
		l = d.written(l, x.parts[0], first, some)
		l = d.written(append(l, binary[x.kind-7]), x.parts[1], rank+1, some)
	}
	if closed {
		l = append(l, ")")
	}
	return l
}

// P5.1: expressions that are written with as few brackets as they need, or some more, are parsed as they are.
func TestBracketsWhereTheyAreNeeded(t *testing.T) {
	d := dice(3)
	count := 0
	for size := 1; size <= 60; size++ {
		for range 60 {
			x := d.grown(size, d.below(3))
			l := row(d.written(nil, x, 0, []int{1, 2, 5, 1 << 30}[d.below(4)])...)
			if x.depth() > 20 || len(l) > 200 {
				continue
			}
			count++
			got, n, e := Parse(l, 0)
			if n != len(l) || e != 0 || shape(got) != shape(x.list()) {
				t.Fatalf("Parse(%q, 0) = %q, %d, %d; want %q", texts(l), shape(got), n, e, shape(x.list()))
			}
		}
	}
	if count < 2000 {
		t.Errorf("only %d expressions were parsed", count)
	}
}

// P5.1: long lists, by a fixed rule, as they are and with single tokens changed, left out or put in, from several indices on.
func TestLongLists(t *testing.T) {
	d := dice(5)
	errors := map[api.Errno]int{}
	all := append(slices.Clone(binary), "7", "k", "t", "v", "(", ")", "-", "not", "join", "window")
	for round := range 4000 {
		var l []string
		if round%4 == 0 {
			l = d.words(d.below(90))
		} else {
			l = d.written(nil, d.grown(1+d.below(80), d.below(3)), 0, 2+d.below(20))
		}
		for range 4 {
			if len(l) == 0 || len(l) > 200 {
				break
			}
			_, _, e := wantedParse(row(l...), 0)
			errors[e]++
			compareParse(t, row(l...), 0)
			compareParse(t, row(l...), d.below(len(l)+1))
			at := d.below(len(l))
			switch s := all[d.below(len(all))]; d.below(3) {
			case 0:
				l[at] = s
			case 1:
				l = slices.Delete(l, at, at+1)
			default:
				l = slices.Insert(l, at, s)
			}
		}
		if t.Failed() {
			return
		}
	}
	// The rule is of use only if it leads to each of these often.
	for _, e := range []api.Errno{0, 4, 12, 34} {
		if errors[e] < 100 {
			t.Errorf("only %d lists have the error %d", errors[e], e)
		}
	}
}

// P5.1: more than MaxTokens tokens, ahead of all else that is wrong.
func TestTokensAreCounted(t *testing.T) {
	l := tokens("v < 1 < " + again("2", 196))
	if x, n, e := Parse(l, 0); len(l) != 200 || shape(x) != "(v < 1)" || n != 3 || e != 0 {
		t.Errorf("of 200 tokens: %v, %d, %d", x, n, e)
	}
	l = append(l, token("2", 400))
	for _, at := range []int{0, 3, 200, 201, 202, -1, math.MinInt, math.MaxInt} {
		expectError(t, l, at, 0, 4)
		expectError(t, make([]api.Token, 201), at, 0, 4)
	}
	expectError(t, slices.Repeat(l, 50), 0, 0, 4)
	// What is behind the length of a slice is none of its tokens.
	if _, n, e := Parse(l[:200], 0); n != 3 || e != 0 {
		t.Errorf("of 200 tokens and one behind them: %d, %d", n, e)
	}
}

// P5.1: tokens that are not valid, wherever they are, also behind what is parsed and ahead of it, and ahead of an index that is none.
func TestTokensAreValid(t *testing.T) {
	bad := []api.Token{
		{}, {Kind: 1}, {Kind: 2}, {Kind: 3}, {Text: "v"}, {Text: "1"}, {Text: "+"}, {Kind: 4, Text: "v"}, {Kind: 255, Text: "v"}, {Kind: 4, Text: "1"}, {Kind: 4, Text: "+"},
		{Kind: 1, Text: "v"}, {Kind: 1, Text: "+"}, {Kind: 1, Text: "-1"}, {Kind: 1, Text: "1 "}, {Kind: 1, Text: " 1"}, {Kind: 1, Text: "1x"}, {Kind: 1, Text: "+1"},
		{Kind: 1, Text: "9223372036854775808"}, {Kind: 1, Text: strings.Repeat("9", 500)}, {Kind: 2, Text: "1"}, {Kind: 2, Text: "+"}, {Kind: 2, Text: "V"}, {Kind: 2, Text: "x"},
		{Kind: 2, Text: "v "}, {Kind: 2, Text: " v"}, {Kind: 2, Text: "vv"}, {Kind: 2, Text: "an"}, {Kind: 2, Text: "And"}, {Kind: 2, Text: "ands"}, {Kind: 3, Text: "v"}, {Kind: 3, Text: "and"},
		{Kind: 3, Text: "1"}, {Kind: 3, Text: "!"}, {Kind: 3, Text: "++"}, {Kind: 3, Text: "()"}, {Kind: 3, Text: "=="}, {Kind: 3, Text: "+ "}, {Kind: 3, Text: "<<<"}, {Kind: 3, Text: "\xff"},
	}
	for _, at := range []int{-1, 401, 402, 1 << 32, math.MinInt, math.MaxInt} {
		bad = append(bad, token("v", at), token("5", at), token("(", at), token("window", at))
	}
	for _, x := range bad {
		for _, s := range []string{"", "v", "v + 2 * k", "v + )", "v < 1 < 2", "( ( v", again("not", 30) + "v", again("v", 199)} {
			for at := range len(tokens(s)) + 1 {
				l := slices.Insert(tokens(s), at, x)
				for _, from := range []int{0, at, len(l), len(l) + 1, -1} {
					expectError(t, l, from, 0, 8)
				}
			}
		}
	}
	for _, s := range []string{"0", "00", "9223372036854775807", strings.Repeat("0", 399) + "7", strings.Repeat("0", 400) + "7", strings.Repeat("0", 1000)} {
		for _, at := range []int{0, 1, 399, 400} {
			want := []api.Node{{Kind: 4, At: 400}, {Kind: 1, At: at}, {Kind: 8, A: 0, B: 1, At: at}}
			want[1].N, _ = strconv.ParseInt(s, 10, 64)
			l := []api.Token{token("v", 400), token("+", at), token(s, at)}
			if x, n, e := Parse(l, 0); !slices.Equal(x, want) || n != 3 || e != 0 {
				t.Errorf("Parse(%.30q, 0) = %v, %d, %d; want %v", s, x, n, e, want)
			}
		}
	}
	// Tokens need not fit in a text together, and may stand in any order, or all at the same place.
	l := row("1", "+", strings.Repeat("0", 300)+"2", "*", strings.Repeat("0", 300)+"3")
	for i := range l {
		l[i].At = 7 * (i % 2)
	}
	want := []api.Node{{Kind: 1, N: 1}, {Kind: 1, N: 2}, {Kind: 1, N: 3}, {Kind: 7, A: 1, B: 2, At: 7}, {Kind: 8, A: 0, B: 3, At: 7}}
	if x, n, e := Parse(l, 0); !slices.Equal(x, want) || n != 5 || e != 0 {
		t.Errorf("of more than MaxText bytes: %v, %d, %d", x, n, e)
	}
}

// P5.1: At of each node is that of its token, of one with parts that of its operator.
func TestAtIsThatOfTheToken(t *testing.T) {
	l := tokens("not ( - k << 3 <= ( t ) ) or v != 5 and 6 - k * t >= 0")
	for i := range l {
		l[i].At = (37*i + 200) % 401 // no two are the same
	}
	x, n, e := Parse(l, 0)
	if n != len(l) || e != 0 {
		t.Fatalf("Parse(%q, 0) = %v, %d, %d", texts(l), x, n, e)
	}
	// k - 3 << t <= not, v 5 !=, 6 k t * - 0 >=, and, or
	order := []int{3, 2, 5, 4, 8, 6, 0, 12, 14, 13, 16, 18, 20, 19, 17, 22, 21, 15, 11}
	for i, node := range x {
		if node.At != l[order[i]].At {
			t.Errorf("node %d of %q is at %d; want %d", i, texts(l), node.At, l[order[i]].At)
		}
	}
	compareParse(t, l, 0)
}

// deep returns a text of nodes with one part around another one, some levels deep.
func deep(operator string, levels int) string { return again(operator, levels-1) + "v" }

// left returns a text of an expression with an operator that is some levels deep by its first parts.
func left(operator string, levels int) string { return "v " + again(operator+" v", levels-1) }

// right returns one that is some levels deep by its second parts.
func right(operator string, levels int) string {
	return again("v "+operator+" (", levels-1) + "v " + again(")", levels-1)
}

// P5.1: MaxDepth and one more, with the token of the first node that is too deep, by each operator.
func TestDepthIsBounded(t *testing.T) {
	for _, s := range []string{"not", "-"} {
		if x, n, e := Parse(tokens(deep(s, 20)), 0); len(x) != 20 || n != 20 || e != 0 {
			t.Errorf("20 levels of %s: %v, %d, %d", s, x, n, e)
		}
		expectError(t, tokens(deep(s, 21)), 0, 0, 34)
		expectError(t, tokens(deep(s, 22)), 0, 1, 34)
		expectError(t, tokens(deep(s, 199)+" "+s), 0, 178, 34)
		expectError(t, tokens("( "+deep(s, 100)+" )"), 0, 80, 34)
	}
	for k, s := range binary {
		if ranks[k] == 4 {
			continue
		}
		compareParse(t, tokens(left(s, 20)), 0)
		expectError(t, tokens(left(s, 21)), 0, 39, 34)
		expectError(t, tokens(left(s, 30)), 0, 39, 34)
		expectError(t, tokens(left(s, 100)), 0, 39, 34)
	}
	for _, s := range binary {
		compareParse(t, tokens(right(s, 20)), 0)
		expectError(t, tokens(right(s, 21)), 0, 1, 34)
		expectError(t, tokens(right(s, 25)), 0, 13, 34)
		if x, _, e := Parse(tokens(right(s, 20)), 0); len(x) != 39 || e != 0 {
			t.Errorf("20 levels of %s: %v, %d", s, x, e)
		}
	}
	// The depth of the second part counts as that of the first one does, and brackets do not count.
	expectError(t, tokens("k + "+deep("-", 20)), 0, 1, 34)
	expectError(t, tokens(deep("-", 20)+" + k"), 0, 20, 34)
	expectError(t, tokens("k = "+deep("-", 20)), 0, 1, 34)
	expectError(t, tokens("k and "+deep("not", 20)), 0, 1, 34)
	expectError(t, tokens("- ( "+left("*", 20)+" )"), 0, 0, 34)
	expectError(t, tokens("not "+left("*", 20)), 0, 0, 34)
	expectShape(t, again("(", 99)+"v "+again(")", 99), "v")
	expectError(t, tokens(again("(", 200)), 0, 200, 12)
	expectError(t, tokens(again("(", 100)+"v "+again(")", 99)), 0, 200, 12)
}

// flat returns a text of a sum of two sums from the left, with some values each.
func flat(a, b int) string { return "( " + left("+", a) + " ) * ( " + left("+", b) + " )" }

// P5.1: MaxNodes nodes and one more, with the token of the first node that has too many: not all that was read counts, but its own.
func TestNodesAreBounded(t *testing.T) {
	s := flat(15, 15) // 59 nodes: a sign in front makes 60, and the outer one of two is too much.
	for count, code := range []api.Errno{0, 0, 4, 4, 4} {
		l := tokens(again("- (", count) + s + again(" )", count))
		x, n, e := Parse(l, 0)
		if e != code || e == 0 && (len(x) != 59+count || n != len(l)) || e != 0 && (len(x) != 0 || n != 2*(count-2)) {
			t.Errorf("%d nodes: %d, %d, %d", 59+count, len(x), n, e)
		}
		compareParse(t, l, 0)
	}
	expectError(t, tokens(flat(15, 16)), 0, 31, 4)
	expectError(t, tokens(flat(16, 15)), 0, 33, 4)
	expectError(t, tokens("( v ) + ( "+s+" )"), 0, 3, 4)
	expectError(t, tokens("( "+s+" ) + v"), 0, 65, 4)
	expectError(t, tokens("not not "+s+" = v"), 0, 65, 4)
	if x, n, e := Parse(tokens("( "+left("+", 15)+" ) * - ( "+left("+", 15)+" )"), 0); len(x) != 60 || n != 64 || e != 0 {
		t.Errorf("29, 29, a sign and a product: %d, %d, %d", len(x), n, e)
	}
	// Nodes that are not joined yet do not count together: there are 120 ahead of the one that joins them.
	l := tokens("( - ( " + s + " ) ) * ( - ( " + s + " ) )")
	expectError(t, l, 0, 68, 4)
	expectError(t, l[:len(l)-1], 0, len(l)-1, 12)
	compareParse(t, l, 0)
	for a := 10; a <= 20; a++ {
		for b := 8; b <= 22; b++ {
			compareParse(t, tokens(flat(a, b)), 0)
			compareParse(t, tokens("- "+flat(a, b)), 0)
			compareParse(t, tokens("v < ( "+flat(a, b)+" )"), 0)
		}
	}
}

// P5.1: which of ErrForm, ErrMany and ErrDeep is met first.
func TestWhatIsMetFirstCounts(t *testing.T) {
	s, d := flat(15, 15), left("+", 20) // 59 nodes; 20 levels and 39 nodes
	behind := len(tokens(s)) + 2
	for _, x := range []struct {
		s    string
		want int
		code api.Errno
	}{
		// A node with too much in it comes ahead of what cannot stand behind it, in brackets or not.
		{d + "+ v )", 39, 34}, {d + "+ v + )", 39, 34}, {"( " + d + "+ v", 40, 34}, {"( " + d + "+ v k", 40, 34}, {d + "+ v + v *", 39, 34},
		{"( " + s + " ) + v +", behind, 4}, {"( ( " + s + " ) + v", behind + 1, 4}, {deep("not", 21) + " and", 0, 34}, {deep("-", 21) + " *", 0, 34},
		// What cannot stand there, or is not there, comes ahead of a node of which this would be a part.
		{d + "+ )", 40, 12}, {d + "+", 40, 12}, {d + "+ *", 40, 12}, {d + "+ ( v", 42, 12}, {d + "+ ( v + )", 43, 12}, {d + "+ v * )", 42, 12}, {again("not", 30) + ")", 30, 12},
		{again("-", 30) + "not v", 30, 12}, {again("- (", 25) + "v " + again(")", 3), 54, 12}, {"( " + s + " ) +", behind + 1, 12}, {"( " + s + " ) + ( v", behind + 3, 12},
		{"( " + s + " ) + v * not v", behind + 3, 12}, {"v + ( " + s, behind + 1, 12}, {"- - ( " + s, behind + 1, 12}, {"- ( " + deep("-", 20), 22, 12}, {"not ( " + d + "k", 41, 12},
		// A part is looked at ahead of the node, and the first part ahead of the second one.
		{"v * ( " + d + "+ v )", 42, 34}, {"- ( " + d + "+ v )", 41, 34}, {"( " + d + "+ v ) * ( " + s + " + v )", 40, 34}, {"( ( " + s + " ) + v ) * ( " + d + "+ v )", behind + 1, 4},
		{"v + ( " + s + " ) * v", behind + 2, 4}, {"v + ( " + s + " ) + v", 1, 4}, {"v or ( " + d + ") + v", 43, 34}, {"v or v and " + deep("not", 20), 3, 34},
		// With as much before it as it may have, what stands behind a part may come first.
		{"( " + s + " ) + - )", behind + 2, 12}, {d + "+ - - )", 42, 12}, {d + "< v < v", 39, 34}, {"v + " + d, 39, 34},
	} {
		expectError(t, tokens(x.s), 0, x.want, x.code)
		compareParse(t, tokens(x.s), 0)
	}
	// A node that is too much in both ways has too many nodes.
	expectError(t, tokens("( "+left("+", 20)+") * ( "+left("+", 11)+")"), 0, 41, 4)
	expectError(t, tokens("( "+left("+", 11)+") * ( "+left("+", 20)+")"), 0, 23, 4)
	expectError(t, tokens("- ( ( "+left("+", 19)+") * - ( "+left("+", 11)+") )"), 0, 0, 4)
	expectError(t, tokens("- - ( ( "+left("+", 19)+") * - ( "+left("+", 11)+") )"), 0, 1, 4)
	expectError(t, tokens("- ( ( "+left("+", 19)+") * ( "+left("+", 11)+") )"), 0, 0, 34)
}

// bracketed returns the text of a tree: in brackets, if it is a part that has parts.
func (x *tree) bracketed(part bool) string {
	s := ""
	switch x.kind {
	case 1:
		return strconv.FormatInt(x.n, 10)
	case 2, 3, 4:
		return "ktv"[x.kind-2 : x.kind-1]
	case 5:
		s = "- " + x.parts[0].bracketed(true)
	case 6:
		s = "not " + x.parts[0].bracketed(true)
	default:
		s = x.parts[0].bracketed(true) + " " + binary[x.kind-7] + " " + x.parts[1].bracketed(true)
	}
	if part {
		return "(" + s + ")"
	}
	return s
}

// expectText checks the text of an expression.
func expectText(t *testing.T, l []api.Node, want string, code api.Errno) {
	t.Helper()
	if s, e := Text(l); s != want || e != code {
		t.Errorf("Text(%v) = %q, %d; want %q, %d", l, s, e, want, code)
	}
}

// one returns a tree of a kind, with an At.
func one(kind uint8, parts ...*tree) *tree { return &tree{kind: kind, at: int(kind), parts: parts} }

// number returns a tree of a number.
func number(n int64) *tree { return &tree{kind: 1, n: n} }

// P5.2: each kind of node, alone, and with each kind of part.
func TestTextHasBracketsAroundParts(t *testing.T) {
	for _, x := range []struct {
		x    *tree
		want string
	}{
		{number(0), "0"}, {number(7), "7"}, {number(math.MaxInt64), "9223372036854775807"}, {one(2), "k"}, {one(3), "t"}, {one(4), "v"},
		{one(5, one(4)), "- v"}, {one(5, number(5)), "- 5"}, {one(6, one(2)), "not k"}, {one(5, one(5, one(4))), "- (- v)"}, {one(6, one(6, one(4))), "not (not v)"},
		{one(6, one(5, one(3))), "not (- t)"}, {one(5, one(6, one(3))), "- (not t)"}, {one(7, one(4), number(2)), "v * 2"}, {one(8, one(4), number(2)), "v + 2"},
		{one(9, one(4), number(2)), "v - 2"}, {one(10, one(4), number(2)), "v << 2"}, {one(11, one(4), number(2)), "v >> 2"}, {one(12, one(4), number(2)), "v < 2"},
		{one(13, one(4), number(2)), "v <= 2"}, {one(14, one(4), number(2)), "v > 2"}, {one(15, one(4), number(2)), "v >= 2"}, {one(16, one(4), number(2)), "v = 2"},
		{one(17, one(4), number(2)), "v != 2"}, {one(18, one(4), number(2)), "v and 2"}, {one(19, one(4), number(2)), "v or 2"},
		{one(8, one(4), one(7, number(2), one(2))), "v + (2 * k)"}, {one(7, one(8, one(4), number(2)), one(2)), "(v + 2) * k"}, {one(9, one(9, one(2), one(3)), one(4)), "(k - t) - v"},
		{one(9, one(2), one(9, one(3), one(4))), "k - (t - v)"}, {one(19, one(6, one(16, one(2), number(1))), one(12, one(3), number(2))), "(not (k = 1)) or (t < 2)"},
		{one(7, one(5, one(4)), one(5, one(2))), "(- v) * (- k)"},
	} {
		expectText(t, x.x.list(), x.want, 0)
	}
	inner := []*tree{number(3), one(2), one(3), one(4)}
	for kind := uint8(5); kind <= 19; kind++ {
		if kind <= 6 {
			inner = append(inner, one(kind, one(4)))
		} else {
			inner = append(inner, one(kind, one(2), number(12)))
		}
	}
	for _, a := range inner {
		for kind := uint8(5); kind <= 6; kind++ {
			x := one(kind, a)
			expectText(t, x.list(), x.bracketed(false), 0)
		}
		for _, b := range inner {
			for kind := uint8(7); kind <= 19; kind++ {
				x := one(kind, a, b)
				expectText(t, x.list(), x.bracketed(false), 0)
			}
		}
	}
}

// P5.2: At does not matter for the text.
func TestTextDoesNotTellPlaces(t *testing.T) {
	l := one(9, one(5, number(2)), one(7, one(2), one(3))).list()
	for _, at := range []int{0, 1, 57, 399, 400} {
		for i := range l {
			l[i].At = at
		}
		expectText(t, l, "(- 2) - (k * t)", 0)
	}
}

// P5.2: nodes.Check's error, and no text beside it.
func TestTextOfWhatIsNoExpression(t *testing.T) {
	v := api.Node{Kind: 4}
	for _, x := range []struct {
		l    []api.Node
		code api.Errno
	}{
		{nil, 8}, {[]api.Node{}, 8}, {[]api.Node{{}}, 8}, {[]api.Node{{Kind: 20}}, 8}, {[]api.Node{{Kind: 255}}, 8}, {[]api.Node{v, v}, 8}, {[]api.Node{{Kind: 1, N: -1}}, 8},
		{[]api.Node{{Kind: 1, N: math.MinInt64}}, 8}, {[]api.Node{{Kind: 4, N: 1}}, 8}, {[]api.Node{{Kind: 4, At: -1}}, 8}, {[]api.Node{{Kind: 4, At: 401}}, 8}, {[]api.Node{{Kind: 4, A: 1}}, 8},
		{[]api.Node{{Kind: 5}}, 8}, {[]api.Node{{Kind: 6}}, 8}, {[]api.Node{{Kind: 7}}, 8}, {[]api.Node{v, {Kind: 5, A: 1}}, 8}, {[]api.Node{v, {Kind: 5, A: -1}}, 8},
		{[]api.Node{v, {Kind: 5, B: 1}}, 8}, {[]api.Node{v, v, {Kind: 8}}, 8}, {[]api.Node{v, v, {Kind: 8, A: 1, B: 0}}, 8}, {[]api.Node{v, v, {Kind: 8, A: 0, B: 2}}, 8},
		{[]api.Node{v, {Kind: 8, A: 0, B: 0}}, 8}, {[]api.Node{v, v, {Kind: 8, A: 0, B: math.MaxInt}}, 8}, {[]api.Node{v, v, {Kind: 8, A: math.MinInt, B: 1}}, 8},
		{make([]api.Node, 60), 8}, {make([]api.Node, 61), 4}, {slices.Repeat([]api.Node{v}, 61), 4}, {slices.Repeat([]api.Node{v}, 60), 8}, {make([]api.Node, 5000), 4},
	} {
		expectText(t, x.l, "", x.code)
	}
	x := one(4)
	for range 19 {
		x = one(6, x)
	}
	expectText(t, x.list(), strings.Repeat("not (", 18)+"not v"+strings.Repeat(")", 18), 0)
	expectText(t, one(5, x).list(), "", 34)
	expectText(t, one(8, one(4), x).list(), "", 34)
	l := one(5, x).list()
	l[3].N = 1
	expectText(t, l, "", 8)
}

// P5.2 and P5.3: expressions of each size are written and read again, all tokens of the text, if it is no longer than a query.
func TestWhatIsWrittenIsReadAgain(t *testing.T) {
	d := dice(7)
	long, count := 0, 0
	for size := 1; size <= 60; size++ {
		for range 60 {
			x := d.grown(size, d.below(2))
			if x.depth() > 20 {
				continue
			}
			l := x.list()
			s, e := Text(l)
			if s != x.bracketed(false) || e != 0 {
				t.Fatalf("Text(%v) = %q, %d; want %q", l, s, e, x.bracketed(false))
			}
			read, _, e := lexer.All(s)
			if len(s) > 400 {
				long++
				continue
			}
			count++
			if e != 0 {
				t.Fatalf("%q has no tokens: %d", s, e)
			}
			got, n, e := Parse(read, 0)
			if e != 0 || n != len(read) {
				t.Fatalf("%q is read as %v, %d, %d", s, got, n, e)
			}
			if same, e := nodes.Same(got, l); !same || e != 0 {
				t.Errorf("%q is read as %v; want %v (%d)", s, got, l, e)
			}
		}
	}
	if count < 2000 || long < 20 {
		t.Errorf("%d texts were read, %d were too long", count, long)
	}
}

// P5.3: what is parsed is valid; it has as many nodes as tokens that are no brackets, each with the place of one of them; brackets around it change nothing but places.
func TestEachTokenIsThatOfOneNode(t *testing.T) {
	d := dice(11)
	count := 0
	for range 4000 {
		l := row(d.words(d.below(40))...)
		if len(l) > 198 {
			continue
		}
		x, n, e := Parse(l, 0)
		if e != 0 {
			continue
		}
		count++
		if e := nodes.Check(x); e != 0 {
			t.Errorf("Parse(%q, 0) = %v, which has the error %d", texts(l), x, e)
		}
		want, got := []int{}, []int{}
		for _, token := range l[:n] {
			if token.Text != "(" && token.Text != ")" {
				want = append(want, token.At)
			}
		}
		for _, node := range x {
			got = append(got, node.At)
		}
		slices.Sort(got)
		if !slices.Equal(got, want) {
			t.Errorf("of %q there are nodes at %v; want %v", texts(l[:n]), got, want)
		}
		inner := slices.Concat([]api.Token{token("(", 0)}, l[:n], []api.Token{token(")", 400)})
		if again, m, e := Parse(inner, 0); !slices.Equal(again, x) || m != n+2 || e != 0 {
			t.Errorf("in brackets %q is %v, %d, %d; want %v, %d", texts(l[:n]), again, m, e, x, n+2)
		}
	}
	if count < 2000 {
		t.Errorf("only %d lists were read", count)
	}
}

// P1 (R2): arguments are left as they were, also behind their length.
func TestArgumentsAreLeftAsTheyWere(t *testing.T) {
	for _, s := range []string{"v + 2 * ( k - - t ) and not 3 = 4", "v + )", "( v", "v", again("- ", 30) + "v", flat(15, 16), again("v", 201)} {
		all := append(tokens(s), tokens("+ 1 ! x")...)
		before := slices.Clone(all)
		l := all[:len(all)-4]
		Parse(l, 0)
		Parse(l, 1)
		Parse(l, len(l)+1)
		if !slices.Equal(all, before) {
			t.Errorf("Parse changed %q", texts(before))
		}
	}
	for _, x := range []*tree{one(9, one(5, number(2)), one(7, one(2), one(3))), one(4), one(4, one(4))} {
		all := append(x.list(), api.Node{Kind: 7, A: 3, B: 9}, api.Node{N: -5})
		before := slices.Clone(all)
		Text(all[:len(all)-2])
		if !slices.Equal(all, before) {
			t.Errorf("Text changed %v", before)
		}
	}
}

// P1 (R2): each call gives new memory, and nothing is kept between calls.
func TestResultsShareNoMemory(t *testing.T) {
	for _, s := range []string{"v", "7", "( v )", "- v", "v + 2 * k", "not v < 1 and k", "( v + 2 ) * k ) +"} {
		l := tokens(s)
		first, n, e := Parse(l, 0)
		want := slices.Clone(first)
		expectError(t, tokens("v +"), 0, 2, 12)
		second, m, f := Parse(l, 0)
		for i := range first[:cap(first)] {
			first[:cap(first)][i] = api.Node{Kind: 19, N: 5, A: 7, B: 9, At: 11}
		}
		third, _, _ := Parse(l, 0)
		if !slices.Equal(second, want) || !slices.Equal(third, want) || n != m || e != 0 || f != 0 {
			t.Errorf("of %q: %v, %v; want %v", s, second, third, want)
		}
		if s, e := Text(second); e == 0 {
			clear(second)
			expectText(t, third, s, 0)
		}
	}
	// Tokens that change behind a call do not change its result.
	l := tokens("v + 2")
	x, _, _ := Parse(l, 0)
	clear(l)
	if shape(x) != "(v + 2)" || x[1].At != 4 {
		t.Errorf("behind the call it is %v", x)
	}
}
