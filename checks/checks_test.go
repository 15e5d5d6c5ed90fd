package checks

import (
	"fmt"
	"math"
	"slices"
	"strings"
	"testing"

	"tailwater/api"
	"tailwater/clauses"
	"tailwater/evals"
	"tailwater/kinds"
	"tailwater/lexer"
	"tailwater/nodes"
	"tailwater/parser"
)

// brief returns how a test tells a query, or a list: the beginning of a long one.
func brief(x any) string {
	s := fmt.Sprintf("%+v", x)
	return s[:min(len(s), 400)]
}

// equal reports whether two queries are the same in each field, where a list may be nil or empty.
func equal(p, q api.Query) bool {
	return p.Agg == q.Agg && slices.Equal(p.Arg, q.Arg) && slices.Equal(p.Sources, q.Sources) && p.Join == q.Join &&
		slices.Equal(p.Where, q.Where) && p.Window == q.Window && p.ByKey == q.ByKey && p.Late == q.Late
}

// expectCheck checks what Check returns, and that a query is valid just if it has no error, or ErrType.
func expectCheck(t *testing.T, q api.Query, at int, code api.Errno) {
	t.Helper()
	if i, e := Check(q); i != at || e != code {
		t.Errorf("Check(%s) = %d, %d; want %d, %d", brief(q), i, e, at, code)
	}
	valid := code
	if code == 42 {
		valid = 0
	}
	if e := clauses.Check(q); e != valid {
		t.Errorf("clauses.Check(%s) = %d; want %d", brief(q), e, valid)
	}
}

// expectCompiled checks what Compile returns for the text of a query that is right.
func expectCompiled(t *testing.T, s string, want api.Query) {
	t.Helper()
	if q, n, e := Compile(s); !equal(q, want) || n != len(s) || e != 0 {
		t.Errorf("Compile(%q) = %+v, %d, %d; want %+v, %d", s, q, n, e, want, len(s))
	}
	expectCheck(t, want, 0, 0)
}

// expectNotCompiled checks that Compile returns an error and its place, and nothing beside them.
func expectNotCompiled(t *testing.T, s string, at int, code api.Errno) {
	t.Helper()
	if q, n, e := Compile(s); !equal(q, api.Query{}) || n != at || e != code {
		t.Errorf("Compile(%q) = %+v, %d, %d; want %d, %d", s, q, n, e, at, code)
	}
}

// expectConstant checks what Constant returns.
func expectConstant(t *testing.T, l []api.Node, want bool, code api.Errno) {
	t.Helper()
	if is, e := Constant(l); is != want || e != code {
		t.Errorf("Constant(%s) = %v, %d; want %v, %d", brief(l), is, e, want, code)
	}
}

// wanted returns what Check has to return for a query that is valid with an argument and a condition, or without those that are nil.
func wanted(arg, where *tree) (int, api.Errno) {
	for i, x := range []*tree{arg, where} {
		if x == nil {
			continue
		}
		if part := x.wrong("nt"[i : i+1]); part != nil {
			return part.at, 42
		}
	}
	return 0, 0
}

// with is a valid query with an argument and a condition, or without those that are nil. The rest of it is by a number.
func with(arg, where *tree, choice int) api.Query {
	q := some(choice)
	q.Arg, q.Where = arg.list(), where.list()
	if arg == nil {
		q.Agg = 1
	}
	return q
}

// some is the part of a valid query that is neither its argument nor its condition, by a number.
func some(choice int) api.Query {
	d := dice(choice)
	q := api.Query{Agg: uint8(2 + d.below(3)), ByKey: d.below(2) == 0, Late: uint8(1 + d.below(2))}
	q.Sources = [][]int{{0}, {3}, {2, 0}, {0, 3}, {1, 3, 0}, {3, 2, 1, 0}}[d.below(6)]
	q.Window = []api.Window{{Kind: 1, Size: 5}, {Kind: 1, Size: 1 << 30}, {Kind: 2, Size: 16, Every: 1}, {Kind: 2, Size: 9, Every: 9}, {Kind: 3, Size: 7}}[d.below(5)]
	q.Join = len(q.Sources) == 2 && q.Window.Kind == 1 && d.below(2) == 0
	return q
}

// expectTrees checks Check with an argument and a condition, and returns its error.
func expectTrees(t *testing.T, arg, where *tree, choice int) api.Errno {
	t.Helper()
	at, code := wanted(arg, where)
	expectCheck(t, with(arg, where, choice), at, code)
	return code
}

// parsed returns the expression of a text, which stands as in this.
func parsed(t *testing.T, s string) []api.Node {
	t.Helper()
	const front = "select sum("
	q, _, e := parser.Parse(front + s + ") from a window tumble 5")
	if e != 0 {
		t.Fatalf("%q is not parsed: %d", s, e)
	}
	for i := range q.Arg {
		q.Arg[i].At -= len(front)
	}
	return q.Arg
}

// written is the text of an expression, and the place of the error that it has as an argument, and as a condition, or -1 for none.
type written struct {
	s          string
	arg, where int
}

// texts are expressions of all kinds, by hand.
func texts() []written {
	return []written{
		{"7", -1, 0}, {"k", -1, 0}, {"t", -1, 0}, {"v", -1, 0}, {"0", -1, 0}, {"9223372036854775807", -1, 0}, {"(v)", -1, 1}, {"((t))", -1, 2}, {"- v", -1, 0}, {"- - 5", -1, 0}, {"-(k)", -1, 0},
		{"v * k", -1, 2}, {"v + k", -1, 2}, {"v - k", -1, 2}, {"v << k", -1, 2}, {"v >> 3", -1, 2}, {"v + 2 * k", -1, 2}, {"(v + 2) * k", -1, 8}, {"v - k - t", -1, 6}, {"1 + 2", -1, 2}, {"- v + 2 << t - 1", -1, 8},
		{"v < k", 2, -1}, {"v <= k", 2, -1}, {"v > k", 2, -1}, {"v >= k", 2, -1}, {"v = k", 2, -1}, {"v != k", 2, -1}, {"1 < 2", 2, -1}, {"(v < k)", 3, -1}, {"not v < 1", 0, -1}, {"not not v = 1", 0, -1}, {"not (v = 1)", 0, -1},
		{"v < 1 and k < 2", 6, -1}, {"v < 1 or k < 2", 6, -1}, {"(v = 1) != (k = 2)", 8, -1}, {"(v = 1) = (k != 2)", 8, -1}, {"v = 1 or k = 2 and t = 3", 6, -1}, {"v + 2 < k * 2", 6, -1}, {"v < 1 and k < 2 or t < 3", 16, -1},
		{"- (v < 1)", 0, 0}, {"- (not v < 1)", 0, 0}, {"not v", 0, 0}, {"not 5", 0, 0}, {"not - v", 0, 0}, {"not (v + 1)", 0, 0}, {"not not v", 4, 4}, {"not not not v", 8, 8},
		{"(v < 1) * k", 8, 8}, {"k * (v < 1)", 2, 2}, {"(v < 1) + k", 8, 8}, {"v + (k < 2)", 2, 2}, {"k - (v < 1)", 2, 2}, {"(v < 1) << (k < 1)", 8, 8}, {"k >> (v < 1)", 2, 2},
		{"(v = 1) <= 2", 8, 8}, {"2 > (v = 1)", 2, 2}, {"(v = 1) >= (k = 1)", 8, 8}, {"(v < 1) < 2", 8, 8}, {"(v = 1) = 2", 8, 8}, {"2 = (v = 1)", 2, 2}, {"(v = 1) != 2", 8, 8}, {"2 != (v = 1)", 2, 2},
		{"v and k", 2, 2}, {"v and k < 1", 2, 2}, {"v < 1 and k", 6, 6}, {"v or k", 2, 2}, {"v < 1 or k", 6, 6}, {"v or k < 1", 2, 2}, {"v < 1 and k < 2 and t", 16, 16}, {"v < 1 and k and t < 2", 6, 6},
		{"(not v) = (k < 1)", 1, 1}, {"(k < 1) = (not v)", 11, 11}, {"1 + - (v < 2)", 4, 4}, {"- (v < 2) + 1", 0, 0}, {"(v and k) = (k < 2)", 3, 3}, {"(not v) + (not k)", 1, 1}, {"(v < 1) + (not k)", 11, 11}, {"not (v and k)", 7, 7}, {"(v + (k < 2)) < (not t)", 3, 3},
	}
}

// P10.1 to P10.3: the chapter's examples, and the one of DOC.md.
func TestExamples(t *testing.T) {
	expectNotCompiled(t, "select sum(v < 1) from a window tumble 5", 13, api.ErrType)
	expectNotCompiled(t, "select sum(v) from a where v window tumble 5", 27, api.ErrType)
	expectConstant(t, parsed(t, "1 + 2"), true, api.OK)
	expectConstant(t, parsed(t, "1 + t"), false, api.OK)
	expectNotCompiled(t, "select sum(v + (k < 2)) from a window tumble 5", 13, api.ErrType)
}

// P10.1 and P10.2: expressions by hand, as arguments and as conditions: all pairs of them.
func TestTexts(t *testing.T) {
	q := api.Query{Agg: 4, Sources: []int{2, 0}, Window: api.Window{Kind: 2, Size: 10, Every: 5}, ByKey: true, Late: 2}
	front, between, behind := "select max(", ") from c union a where ", " window slide 10 every 5 by key late side"
	for _, x := range texts() {
		q.Arg = placedFrom(parsed(t, x.s), len(front))
		for _, y := range texts() {
			second := len(front) + len(x.s) + len(between)
			q.Where = placedFrom(parsed(t, y.s), second)
			s := front + x.s + between + y.s + behind
			switch {
			case x.arg >= 0:
				expectCheck(t, q, len(front)+x.arg, 42)
				expectNotCompiled(t, s, len(front)+x.arg, 42)
			case y.where >= 0:
				expectCheck(t, q, second+y.where, 42)
				expectNotCompiled(t, s, second+y.where, 42)
			default:
				expectCompiled(t, s, q)
			}
		}
	}
}

// placedFrom is an expression that stands some places further.
func placedFrom(l []api.Node, by int) []api.Node {
	c := slices.Clone(l)
	for i := range c {
		c[i].At += by
	}
	return c
}

// P10.1 and P10.2: expressions by hand, each of them the only one of its query.
func TestTextsAlone(t *testing.T) {
	for _, x := range texts() {
		arg := api.Query{Agg: 3, Arg: placedFrom(parsed(t, x.s), 11), Sources: []int{3, 1}, Join: true, Window: api.Window{Kind: 1, Size: 60}, Late: 1}
		s := "select min(" + x.s + ") from d join b window tumble 60"
		if x.arg < 0 {
			expectCompiled(t, s, arg)
		} else {
			expectCheck(t, arg, 11+x.arg, 42)
			expectNotCompiled(t, s, 11+x.arg, 42)
		}
		where := api.Query{Agg: 1, Where: placedFrom(parsed(t, x.s), 29), Sources: []int{1}, Window: api.Window{Kind: 3, Size: 7}, Late: 1}
		s = "select count(*) from b where " + x.s + " window session 7"
		if x.where < 0 {
			expectCompiled(t, s, where)
		} else {
			expectCheck(t, where, 29+x.where, 42)
			expectNotCompiled(t, s, 29+x.where, 42)
		}
	}
}

// P10.1: each kind as the whole of an argument and of a condition, by the names of the kinds.
func TestWholesOfEachKind(t *testing.T) {
	v, less := one(api.NoValue), one(api.NoLess, one(api.NoKey), one(api.NoTime))
	numbers := []*tree{one(api.NoNumber), one(api.NoKey), one(api.NoTime), v, one(api.NoNeg, v), one(api.NoMul, v, v), one(api.NoAdd, v, v), one(api.NoSub, v, v), one(api.NoShl, v, v), one(api.NoShr, v, v)}
	truths := []*tree{one(api.NoNot, less), less, one(api.NoAtMost, v, v), one(api.NoMore, v, v), one(api.NoLeast, v, v), one(api.NoEqual, v, v), one(api.NoOther, v, v), one(api.NoEqual, less, less), one(api.NoOther, less, less), one(api.NoAnd, less, less), one(api.NoOr, less, less)}
	place := func(from int) func(i int) int { return func(i int) int { return from + 3*i } }
	last := func(x *tree, from int) int { return from + 3*(len(x.all())-1) }
	for i, n := range numbers {
		n, m := n.placed(place(20)), n.placed(place(300))
		for j, b := range truths {
			b, c := b.placed(place(70)), b.placed(place(200))
			expectCheck(t, with(n, b, i+j), 0, api.OK)
			expectCheck(t, with(n, nil, i+j), 0, api.OK)
			expectCheck(t, with(nil, b, i+j), 0, api.OK)
			expectCheck(t, with(c, b, i+j), last(c, 200), api.ErrType)
			expectCheck(t, with(c, nil, i+j), last(c, 200), api.ErrType)
			expectCheck(t, with(n, m, i+j), last(m, 300), api.ErrType)
			expectCheck(t, with(nil, m, i+j), last(m, 300), api.ErrType)
			expectCheck(t, with(b, n, i+j), last(b, 70), api.ErrType)
		}
	}
}

// P10.1: all small trees as arguments and as conditions, alone, and in pairs.
func TestSmallTrees(t *testing.T) {
	few := []*tree{}
	for i, x := range trees(3) {
		few = append(few, x.placed(func(k int) int { return (7*i + 90*k) % 401 }))
	}
	counts := map[api.Errno]int{}
	for i, x := range few {
		for j, y := range few {
			counts[expectTrees(t, x, y.placed(func(k int) int { return (9*j + 170*k) % 401 }), i+j)]++
		}
	}
	d := dice(5)
	for i, x := range trees(5) {
		x = x.placed(d.placing())
		counts[expectTrees(t, x, nil, i)]++
		counts[expectTrees(t, nil, x, i)]++
		counts[expectTrees(t, few[i%len(few)], x, i)]++
		counts[expectTrees(t, x, few[i%len(few)], i)]++
	}
	if counts[0] < 5000 || counts[42] < 5000 {
		t.Errorf("there are %v", counts)
	}
}

// P10.1: trees of all sizes that a query may have, typed and not.
func TestLargeTrees(t *testing.T) {
	args, wheres := samples(4000, 3), samples(4000, 17)
	counts := map[api.Errno]int{}
	sizes := map[int]int{}
	for i, x := range args {
		y := wheres[i]
		counts[expectTrees(t, x, y, i)]++
		expectTrees(t, x, nil, i)
		expectTrees(t, nil, y, i)
		expectTrees(t, y, x, i)
		expectTrees(t, x, x, i)
		sizes[len(x.all())]++
	}
	if counts[0] < 200 || counts[42] < 200 || sizes[1] == 0 || sizes[60] == 0 {
		t.Errorf("there are %v, and the sizes %v", counts, sizes)
	}
}

// P10.1: MaxNodes nodes, and the depth MaxDepth, in the argument and in the condition, and one more of it.
func TestLimits(t *testing.T) {
	leaf := one(4)
	less := one(12, leaf, one(2))
	place := func(from int) func(i int) int { return func(i int) int { return from + i } }
	for size := 3; size <= 62; size++ {
		n, b := bush(size, 9, leaf).placed(place(1)), bush(size, 14, leaf).placed(place(101))
		if len(n.all()) != size || len(b.all()) != size || n.depth() > 20 || b.depth() > 20 {
			t.Fatalf("%s and %s are no samples of the size %d", brief(n.list()), brief(b.list()), size)
		}
		if size > 60 {
			expectCheck(t, with(n, less, size), 0, 4)
			expectCheck(t, with(leaf, b, size), 0, 4)
			expectCheck(t, with(b, n, size), 0, 4)
			expectCheck(t, with(nil, n, size), 0, 4)
			continue
		}
		expectCheck(t, with(n, b, size), 0, 0)
		expectCheck(t, with(nil, b, size), 0, 0)
		expectCheck(t, with(b, b, size), 100+size, 42)
		expectCheck(t, with(n, n, size), size, 42)
		expectCheck(t, with(nil, n, size), size, 42)
		expectCheck(t, with(b, n, size), 100+size, 42)
	}
	for depth := 3; depth <= 22; depth++ {
		n, b := chain(depth, 5, leaf).placed(place(1)), chain(depth, 6, less).placed(place(101))
		if depth > 20 {
			expectCheck(t, with(n, less, depth), 0, 34)
			expectCheck(t, with(leaf, b, depth), 0, 34)
			expectCheck(t, with(b, n, depth), 0, 34)
			continue
		}
		expectCheck(t, with(n, b, depth), 0, 0)
		expectCheck(t, with(b, n, depth), 101+depth, 42)
		expectCheck(t, with(n, n, depth), depth, 42)
		// Not typed at the bottom: the first node that does not fit stands there, not the whole.
		expectCheck(t, with(chain(depth, 6, leaf).placed(place(1)), b, depth), 2, 42)
		expectCheck(t, with(n, chain(depth, 5, less).placed(place(201)), depth), 204, 42)
	}
}

// P10.1: the place is that of the node, whatever it is, also where others have the same one.
func TestPlaces(t *testing.T) {
	d := dice(9)
	for _, x := range append(untyped(), typed()...) {
		for _, at := range []int{0, 1, 2, 200, 399, 400} {
			same := x.placed(func(int) int { return at })
			if same.wrong("n") != nil {
				expectCheck(t, with(same, nil, at), at, 42)
				expectCheck(t, with(same, one(4).placed(func(int) int { return 5 }), at), at, 42)
			}
			if same.wrong("t") != nil {
				expectCheck(t, with(nil, same, at), at, 42)
				expectCheck(t, with(one(4).placed(func(int) int { return 5 }), same, at), at, 42)
			}
		}
		for i := range 30 {
			expectTrees(t, x.placed(d.placing()), nil, i)
			expectTrees(t, nil, x.placed(d.placing()), i)
			expectTrees(t, one(4).placed(d.placing()), x.placed(d.placing()), i)
			expectTrees(t, x.placed(d.placing()), x.placed(d.placing()), i)
		}
	}
}

// expression is an argument or a condition, with the error that it has as an expression.
type expression struct {
	l    []api.Node
	code api.Errno
}

// someExpressions are expressions, and lists that are none, with what nodes.Check returns: for an empty one it is ErrBad.
func someExpressions() []expression {
	place := func(x *tree, from int) []api.Node { return x.placed(func(i int) int { return from + 2*i }).list() }
	less := one(12, one(4), number(3))
	return []expression{
		{nil, 8}, {[]api.Node{}, 8}, {place(one(4), 11), 0}, {place(one(8, one(4), number(2)), 30), 0}, {place(less, 50), 0}, {place(one(6, one(3)), 70), 0}, {place(one(8, less, one(2)), 90), 0}, {place(bush(60, 8, one(2)), 200), 0}, {place(bush(60, 13, one(2)), 250), 0},
		{place(bush(61, 8, one(2)), 0), 4}, {place(bush(75, 13, one(2)), 0), 4}, {place(chain(21, 5, one(4)), 0), 34}, {place(chain(21, 6, less), 0), 34}, {place(chain(21, 6, one(4)), 0), 34},
		{[]api.Node{{Kind: 4}, {Kind: 5, A: 1}}, 8}, {[]api.Node{{}}, 8}, {[]api.Node{{Kind: 4, At: 401}}, 8}, {[]api.Node{{Kind: 4, At: 5}, {Kind: 4, At: 6}}, 8}, {[]api.Node{{Kind: 1, N: -1}}, 8}, {[]api.Node{{Kind: 20}}, 8}, {[]api.Node{{Kind: 6, A: -1, At: 3}}, 8}, {[]api.Node{{Kind: 12, A: 7, B: 9}}, 8},
	}
}

// bad returns ErrBad if something is so.
func bad(is bool) api.Errno {
	if is {
		return 8
	}
	return 0
}

// first returns the first error of some, or none.
func first(codes ...api.Errno) api.Errno {
	for _, e := range codes {
		if e != 0 {
			return e
		}
	}
	return 0
}

// otherParts are the other parts of a query, with the errors that they have in front of its argument, and behind its condition.
type otherParts struct {
	q              api.Query
	ahead, sources api.Errno
}

// someParts are other parts of queries.
func someParts() []otherParts {
	l := []otherParts{}
	for _, agg := range []uint8{0, 1, 2, 3, 4, 5} {
		for _, late := range []uint8{0, 1, 2, 3} {
			q := api.Query{Agg: agg, Late: late, Sources: []int{3, 0}, Window: api.Window{Kind: 1, Size: 60}, ByKey: late == 1}
			ahead := bad(agg < 1 || agg > 4 || late < 1 || late > 2)
			for _, x := range []struct {
				sources []int
				join    bool
				window  api.Window
				code    api.Errno
			}{
				{[]int{3, 0}, false, api.Window{Kind: 1, Size: 60}, 0}, {[]int{3, 0}, true, api.Window{Kind: 1, Size: 60}, 0}, {[]int{1}, false, api.Window{Kind: 2, Size: 16, Every: 1}, 0}, {[]int{2, 1, 0, 3}, false, api.Window{Kind: 3, Size: 1}, 0},
				{nil, false, api.Window{Kind: 1, Size: 60}, 8}, {[]int{4}, false, api.Window{Kind: 1, Size: 60}, 8}, {[]int{-1}, false, api.Window{Kind: 1, Size: 60}, 8}, {[]int{1}, true, api.Window{Kind: 1, Size: 60}, 8}, {[]int{2, 2}, true, api.Window{Kind: 1, Size: 60}, 43}, {[]int{0, 1, 2, 0}, false, api.Window{Kind: 3, Size: 60}, 43}, {[]int{0, 1, 2, 3, 0}, false, api.Window{Kind: 1, Size: 60}, 4},
				{[]int{0}, false, api.Window{}, 8}, {[]int{0}, false, api.Window{Kind: 1}, 8}, {[]int{0}, false, api.Window{Kind: 2, Size: 17, Every: 1}, 8}, {[]int{0}, false, api.Window{Kind: 3, Size: 1<<30 + 1}, 8}, {[]int{0}, false, api.Window{Kind: 4, Size: 1}, 8},
				{[]int{0, 1}, true, api.Window{Kind: 2, Size: 10, Every: 5}, 8}, {[]int{0, 1}, true, api.Window{Kind: 3, Size: 10}, 8},
			} {
				q.Sources, q.Join, q.Window = x.sources, x.join, x.window
				l = append(l, otherParts{q, ahead, x.code})
			}
		}
	}
	return l
}

// wrongPlace returns the place of what is wrong with an expression, and ErrType, or nothing if it has no nodes, or is right.
func wrongPlace(l []api.Node, asked string) (int, api.Errno) {
	if len(l) == 0 {
		return 0, 0
	}
	if i := wrongNode(l, asked); i >= 0 {
		return l[i].At, 42
	}
	return 0, 0
}

// P10.1: each error of clauses.Check comes ahead of ErrType, wherever it is, with the index 0.
func TestErrorsOfClausesComeFirst(t *testing.T) {
	counts := map[api.Errno]int{}
	for _, x := range someParts() {
		for _, arg := range someExpressions() {
			argument := arg.code
			if x.q.Agg == 1 {
				argument = bad(len(arg.l) > 0)
			}
			for _, where := range someExpressions() {
				condition := where.code
				if len(where.l) == 0 {
					condition = 0
				}
				q := x.q
				q.Arg, q.Where = arg.l, where.l
				code := first(x.ahead, argument, condition, x.sources)
				at := 0
				if code == 0 {
					at, code = wrongPlace(q.Arg, "n")
				}
				if code == 0 {
					at, code = wrongPlace(q.Where, "t")
				}
				expectCheck(t, q, at, code)
				counts[code]++
			}
		}
	}
	for _, code := range []api.Errno{0, 4, 8, 34, 42, 43} {
		if counts[code] < 50 {
			t.Errorf("there are %v of the errors", counts)
		}
	}
}

// P10.1: of both expressions that are wrong the argument counts, also where it stands behind the condition, or is not typed much later.
func TestArgumentFirst(t *testing.T) {
	deep := one(8, bush(50, 8, one(4)), one(12, one(4), one(2))).placed(func(i int) int { return 100 + i })
	soon := one(6, one(4)).placed(func(i int) int { return 10 + i })
	late := one(6, one(4)).placed(func(i int) int { return 300 + i })
	root := len(deep.all()) - 1
	expectCheck(t, with(deep, soon, 1), 100+root, 42)
	expectCheck(t, with(deep, late, 1), 100+root, 42)
	expectCheck(t, with(late, deep, 1), 301, 42)
	expectCheck(t, with(soon, deep, 1), 11, 42)
	expectCheck(t, with(one(4), deep, 1), 100+root, 42)
	expectCheck(t, with(late, soon, 1), 301, 42)
	expectCheck(t, with(soon, late, 1), 11, 42)
	// At 0, where it is just an ErrType that tells it from a query that is right.
	zero := one(6, one(4))
	expectCheck(t, with(zero, soon, 1), 0, 42)
	expectCheck(t, with(zero, nil, 1), 0, 42)
	expectCheck(t, with(nil, zero, 1), 0, 42)
	expectCheck(t, with(one(4), one(4), 1), 0, 42)
}

// P10.4: without an argument and a condition a query is right if it is valid.
func TestWithoutExpressions(t *testing.T) {
	right := 0
	for _, x := range someParts() {
		for _, none := range [][]api.Node{nil, {}} {
			q := x.q
			q.Arg, q.Where = none, none
			code := first(x.ahead, bad(q.Agg != 1), x.sources)
			expectCheck(t, q, 0, code)
			if code == 0 {
				right++
			}
		}
	}
	if right != 2*2*4 {
		t.Errorf("%d queries are right", right)
	}
	for i := range 400 {
		expectCheck(t, with(nil, nil, i), 0, 0)
	}
}

// P10.4: a condition and an argument are checked by themselves: the rest of a query, and which aggregate it is, does not matter.
func TestPartsByThemselves(t *testing.T) {
	args, wheres := append(samples(300, 23), append(typed(), untyped()...)...), samples(400, 29)
	for i, x := range args {
		y := wheres[i]
		argAt, arg := Check(with(x, nil, 0))
		whereAt, where := Check(with(nil, y, 0))
		if argCode := kindCode(kinds.Number(x.list())); arg != argCode {
			t.Errorf("the argument %s has the error %d; want %d", brief(x.list()), arg, argCode)
		}
		if whereCode := kindCode(kinds.Truth(y.list())); where != whereCode {
			t.Errorf("the condition %s has the error %d; want %d", brief(y.list()), where, whereCode)
		}
		for choice := range 20 {
			expectCheck(t, with(x, nil, choice), argAt, arg)
			expectCheck(t, with(nil, y, choice), whereAt, where)
			if arg != 0 {
				expectCheck(t, with(x, y, choice), argAt, arg)
			} else {
				expectCheck(t, with(x, y, choice), whereAt, where)
			}
		}
	}
}

// kindCode is the error of what kinds returns.
func kindCode(_ int, e api.Errno) api.Errno { return e }

// P10.1: the place is that of the node that kinds tells, ErrType just where kinds tells it.
func TestAsKindsTell(t *testing.T) {
	args, wheres := samples(1500, 31), samples(1500, 37)
	for i, x := range args {
		q := with(x, wheres[i], i)
		n, e := kinds.Number(q.Arg)
		m, f := kinds.Truth(q.Where)
		switch {
		case e != 0:
			expectCheck(t, q, q.Arg[n].At, 42)
		case f != 0:
			expectCheck(t, q, q.Where[m].At, 42)
		default:
			expectCheck(t, q, 0, 0)
		}
	}
}

// P10.2: texts that are right, with their queries field by field.
func TestCompiled(t *testing.T) {
	expectCompiled(t, "select count(*) from a window tumble 5", api.Query{Agg: 1, Sources: []int{0}, Window: api.Window{Kind: 1, Size: 5}, Late: 1})
	expectCompiled(t, "select sum(v) from a window tumble 5", api.Query{Agg: 2, Arg: []api.Node{{Kind: 4, At: 11}}, Sources: []int{0}, Window: api.Window{Kind: 1, Size: 5}, Late: 1})
	expectCompiled(t, " select\nmin ( 7 ) from d window session 1 late drop ", api.Query{Agg: 3, Arg: []api.Node{{Kind: 1, N: 7, At: 14}}, Sources: []int{3}, Window: api.Window{Kind: 3, Size: 1}, Late: 1})
	expectCompiled(t, "select max(-k) from c join b window tumble 1073741824 by key", api.Query{
		Agg: 4, Arg: []api.Node{{Kind: 2, At: 12}, {Kind: 5, At: 11}}, Sources: []int{2, 1}, Join: true, Window: api.Window{Kind: 1, Size: 1 << 30}, ByKey: true, Late: 1,
	})
	expectCompiled(t, "select sum(v) from a union c where k > 0 window slide 10 every 5 by key late side", api.Query{
		Agg: 2, Arg: []api.Node{{Kind: 4, At: 11}}, Sources: []int{0, 2},
		Where:  []api.Node{{Kind: 2, At: 35}, {Kind: 1, At: 39}, {Kind: 14, A: 0, B: 1, At: 37}},
		Window: api.Window{Kind: 2, Size: 10, Every: 5}, ByKey: true, Late: 2,
	})
	expectCompiled(t, "select count(*) from d union b union a where not (v = 1) = (k < 2) window slide 16 every 1 late side", api.Query{
		Agg: 1, Sources: []int{3, 1, 0}, Window: api.Window{Kind: 2, Size: 16, Every: 1}, Late: 2,
		Where: []api.Node{{Kind: 4, At: 50}, {Kind: 1, N: 1, At: 54}, {Kind: 16, A: 0, B: 1, At: 52}, {Kind: 2, At: 60}, {Kind: 1, N: 2, At: 64}, {Kind: 12, A: 3, B: 4, At: 62}, {Kind: 16, A: 2, B: 5, At: 57}, {Kind: 6, A: 6, At: 45}},
	})
}

// mistake is a text with an error, and where in it that is.
type mistake struct {
	s    string
	at   int
	code api.Errno
}

// mistakes are texts with each error that parser.Parse has. Behind the first ones, those have something of the wrong kind, too, nearly all of them in front of the error.
func mistakes() []mistake {
	minus := strings.Repeat("-", 20)
	return []mistake{
		{"", 0, 12}, {" \n ", 3, 12}, {"select", 6, 12}, {"select count(v)", 13, 12}, {"select count(*) from", 20, 12}, {"select count(*) from a", 22, 12}, {"select sum() from a window tumble 5", 11, 12}, {"5", 0, 12}, {"!", 0, 32}, {"select count(*) from e window tumble 5", 21, 32}, {strings.Repeat(" ", 401), 0, 4}, {strings.Repeat("v ", 200) + "v", 0, 4},
		{"select sum(not v", 16, 12}, {"select sum(not v from a", 17, 12}, {"select sum(not v) a", 18, 12}, {"select sum(v < 1) from", 22, 12}, {"select sum(v < 1) from v", 23, 12}, {"select sum(v < 1) from a", 24, 12}, {"select sum(v < 1 < 2) from a window tumble 5", 17, 12}, {"select sum((v and k) + ) from a window tumble 5", 23, 12},
		{"select sum(v < 1) from a join a window tumble 5", 30, 43}, {"select sum(not k) from a union b union a window tumble 5", 39, 43}, {"select sum(not k) from d union c union b union a union d", 55, 43},
		{"select sum(v < 1) from a where", 30, 12}, {"select sum(v < 1) from a where window tumble 5", 31, 12}, {"select sum(v < 1) from a where v + ) window tumble 5", 35, 12}, {"select sum(v < 1) from a where not v", 36, 12}, {"select count(*) from a where not v", 34, 12}, {"select count(*) from a where v tumble 5", 31, 12},
		{"select sum(not v) from a join b window slide 10 every 5", 39, 8}, {"select sum(v) from a join b where not v window session 10", 47, 8}, {"select count(*) from a join b where v + (v < 1) window slide 5", 55, 8},
		{"select sum(not v) from a window tumble 0", 39, 16}, {"select sum(v) from a where v window session 1073741825", 44, 16}, {"select count(*) from a where not v window slide 17 every 1", 57, 16}, {"select count(*) from a where not v window slide 0 every 1", 48, 16},
		{"select sum(not v) from a window", 31, 12}, {"select sum(not v) from a window hop 5", 32, 32}, {"select sum(not v) from a window tumble", 38, 12}, {"select sum(not v) from a window tumble v", 39, 12}, {"select sum(not v) from a window slide 5", 39, 12}, {"select sum(not v) from a window slide 5 by key", 40, 12}, {"select sum(not v) from a window tumble 5 by", 43, 12}, {"select sum(not v) from a window tumble 5 late key", 46, 12},
		{"select sum(not v) from a window tumble 5 v", 41, 38}, {"select sum(v) from a where v window tumble 5 by key by", 52, 38}, {"select count(*) from a where v and k window session 5 late side late", 64, 38}, {"select count(*) from a where v window tumble 5 every 5", 47, 38}, {"select sum(v < 1) from a window tumble 5)", 40, 38},
		{"select sum(" + minus + "(v < 1)) from a window tumble 5", 12, 34}, {"select sum(not v) from a where " + minus + "v window tumble 5", 31, 34}, {"select count(*) from a where k and " + minus + "v window tumble 5", 35, 34},
		{"select sum((" + sums(15) + ")+(" + sums(15) + "+-v)) from a window tumble 5", 42, 4}, {"select sum(not v) from a where (" + sums(16) + ")<(" + sums(15) + ") window tumble 5", 64, 4},
		{"select sum(not v) from a window tumble 5 !", 41, 32}, {"select sum(not v) from a window tumble 9223372036854775808", 39, 16}, {"select sum(not v) from a window tumbles 5", 32, 32}, {"select sum(not v) from a where 9223372036854775808 window tumble 5", 31, 16}, {"select sum(not v, k) from a window tumble 5", 16, 32},
		{"select sum(not v) from a window tumble 5" + strings.Repeat(" ", 361), 0, 4}, {"select sum(" + strings.Repeat("(", 93) + "not v" + strings.Repeat(")", 93) + ") from a window tumble 5 by key late side", 239, 4},
	}
}

// sums is v in a sum with itself some times: 2 * count - 1 nodes.
func sums(count int) string { return strings.Repeat("v+", count-1) + "v" }

// P10.2: each error of parser.Parse, with its index, also where what is in front of it has the wrong kind.
func TestErrorsOfParser(t *testing.T) {
	counts := map[api.Errno]int{}
	for _, x := range mistakes() {
		expectNotCompiled(t, x.s, x.at, x.code)
		counts[x.code]++
		if q, n, e := parser.Parse(x.s); !equal(q, api.Query{}) || n != x.at || e != x.code {
			t.Errorf("Parse(%q) = %+v, %d, %d; want %d, %d", x.s, q, n, e, x.at, x.code)
		}
	}
	for _, code := range []api.Errno{4, 8, 12, 16, 32, 34, 38, 43} {
		if counts[code] == 0 {
			t.Errorf("there are %v of the errors", counts)
		}
	}
}

// rightTexts and wrongTexts are queries of all forms; the wrong ones have ErrType at a place.
func rightTexts() []string {
	return []string{
		"select count(*) from a window tumble 5", "select sum(v) from a window tumble 5", "select min(t) from b window slide 10 every 5", "select max(k) from c window session 7", "select count(*) from d where v = 1 window tumble 5 by key",
		"select sum(v+2*k) from d union a where k < 2 window slide 32 every 2 late drop", "select min(-v) from b union a union d where not k = 2 window session 1 late side", "select max((v)) from c union b union a union d where (k >= t) window tumble 1073741824 by key late drop",
		"select sum(0) from d join a where v = 1 or t != 2 and k >= 3 window tumble 60", "select max(v - 1)\nfrom c join b\nwhere not (k = 2)\nwindow tumble 3600 by key", "  select\n\nsum ( 007 )from b union c where(v<1)=(k<1) window session 007 late\ndrop  ",
	}
}
func wrongTexts() []mistake {
	return []mistake{
		{"select sum(v < 1) from a window tumble 5", 13, 42}, {"select sum(v) from a where v window tumble 5", 27, 42}, {"select min(not v) from a where not v window slide 10 every 5", 11, 42}, {"select count(*) from a join b where k + t window tumble 5 by key late side", 38, 42},
		{"select max(v + (k < 2)) from a union b where k < 1 window session 5", 13, 42}, {"select max(v + k) from a union b where (k < 1) < 2 window session 5", 47, 42}, {"  select\nsum\n(\n(v)=(k)\n) from d where 5 window tumble 5 ", 18, 42},
		{"select sum(v) from a where not not not v window tumble 5", 35, 42}, {"select sum(v) from a where v window tumble 5 by key late drop", 27, 42}, {"select sum(k and t) from a where v window tumble 5", 13, 42}, {"select sum(not not v) from a where v window tumble 5", 15, 42},
	}
}

// compareText compares what Compile returns for a text with what parser.Parse does, and with the kinds of the nodes; it returns the error.
func compareText(t *testing.T, s string) api.Errno {
	t.Helper()
	q, n, e := parser.Parse(s)
	if e != 0 {
		expectNotCompiled(t, s, n, e)
		return e
	}
	at, code := wrongPlace(q.Arg, "n")
	if code == 0 {
		at, code = wrongPlace(q.Where, "t")
	}
	if code == 0 {
		expectCompiled(t, s, q)
		return 0
	}
	if at < 0 || at >= len(s) {
		t.Errorf("the place %d is not in %q", at, s)
	}
	expectCheck(t, q, at, 42)
	expectNotCompiled(t, s, at, 42)
	return 42
}

// P10.2: queries of all forms, as they are, and with blanks in front and behind up to the limit, and beyond it.
func TestTextsWithBlanks(t *testing.T) {
	all := []mistake{}
	for _, s := range rightTexts() {
		all = append(all, mistake{s, len(s), 0})
	}
	for _, x := range append(all, wrongTexts()...) {
		count := 400 - len(x.s)
		for _, front := range []int{0, 1, count / 2, count - 1, count} {
			s := strings.Repeat(" ", front) + x.s + strings.Repeat("\n", count-front)
			if code := compareText(t, s); code != x.code {
				t.Errorf("%q has the error %d; want %d", s, code, x.code)
			}
			if x.code != 0 {
				expectNotCompiled(t, s, front+x.at, 42)
				expectNotCompiled(t, strings.Repeat(" ", front)+x.s, front+x.at, 42)
			}
			expectNotCompiled(t, s+" ", 0, 4)
		}
	}
}

// P10.2 and P10.4: texts with one token left out, put in or changed, and with one byte changed.
func TestTextsWithOneChange(t *testing.T) {
	counts := map[api.Errno]int{}
	all := strings.Fields("( ) * + - < <= << >> = != and or not k t v 1 0 a b where window by key late union join count sum select from")
	sources := rightTexts()
	for _, x := range wrongTexts() {
		sources = append(sources, x.s)
	}
	for _, s := range sources {
		tokens, _, _ := lexer.All(s)
		for _, token := range append(tokens, api.Token{At: len(s)}) {
			front, behind := s[:token.At], s[token.At+len(token.Text):]
			counts[compareText(t, front)]++
			counts[compareText(t, front+behind)]++
			for _, text := range all {
				counts[compareText(t, front+" "+text+" "+behind)]++
				counts[compareText(t, front+" "+text+" "+token.Text+behind)]++
			}
		}
		for at := range len(s) {
			for _, c := range " (v<=-1a!" {
				counts[compareText(t, s[:at]+string(c)+s[at+1:])]++
			}
		}
	}
	for _, code := range []api.Errno{0, 8, 12, 16, 32, 38, 42, 43} {
		if counts[code] == 0 {
			t.Errorf("there are %v of the errors", counts)
		}
	}
}

// expectWritten writes a query with two trees, and checks that its text is compiled to it just if it is right, and else what is wrong and where.
func expectWritten(t *testing.T, arg, where *tree, choice int) api.Errno {
	t.Helper()
	w := &writer{count: choice}
	rest := some(choice)
	if arg == nil {
		rest.Agg = 1
	} else {
		arg = arg.fresh()
	}
	if where != nil {
		where = where.fresh()
	}
	q := w.query(rest, arg, where)
	at, code := wanted(arg, where)
	if len(w.s) > 400 {
		return 4
	}
	if code == 0 {
		expectCompiled(t, w.s, q)
		return 0
	}
	expectCheck(t, q, at, code)
	expectNotCompiled(t, w.s, at, code)
	return code
}

// P10.4: a text is compiled just if it is the text of a query that is right, and then to this: all small trees, and larger ones.
func TestWrittenQueries(t *testing.T) {
	counts := map[api.Errno]int{}
	few := append(trees(2), append(typed(), untyped()...)...)
	for i, x := range few {
		counts[expectWritten(t, x, nil, i)]++
		counts[expectWritten(t, nil, x, i)]++
		for j, y := range few {
			counts[expectWritten(t, x, y, i+j)]++
		}
	}
	for i, x := range trees(4) {
		counts[expectWritten(t, x, few[i%len(few)], i)]++
		counts[expectWritten(t, few[i%len(few)], x, i)]++
		counts[expectWritten(t, nil, x, i)]++
	}
	args, wheres := samples(2000, 41), samples(2000, 43)
	for i, x := range args {
		counts[expectWritten(t, x, wheres[i], i)]++
		counts[expectWritten(t, x, nil, i)]++
		counts[expectWritten(t, nil, x, i)]++
	}
	for i := range 300 {
		if code := expectWritten(t, nil, nil, i); code != 0 {
			t.Errorf("a count without a condition has the error %d", code)
		}
	}
	if counts[0] < 1000 || counts[42] < 1000 {
		t.Errorf("there are %v", counts)
	}
}

// P10.3: expressions by hand; the kinds of their parts do not matter.
func TestConstantByHand(t *testing.T) {
	for s, want := range map[string]bool{
		"1": true, "0": true, "9223372036854775807": true, "- 1": true, "1 + 2": true, "1 + 2 * 3 - 4 << 5 >> 6": true, "1 < 2": true, "1 = 1 and 2 != 3 or not 4 >= 5": true, "(1 <= 2) = (3 > 4)": true, "2": true, "3": true, "4": true, "(2)": true,
		"k": false, "t": false, "v": false, "- k": false, "not t": false, "(v)": false, "1 + t": false, "t + 1": false, "1 + v * 2": false, "1 + 2 * k": false, "k * 1 + 2": false, "1 < v": false, "v - v": false, "0 * v": false, "k = k": false, "1 = 1 or t < 2": false, "t < 2 or 1 = 1": false,
		"not 1": true, "- (1 < 2)": true, "1 and 2": true, "(1 < 2) + 3": true, "3 = (1 < 2)": true, "not v": false, "- (k < 2)": false, "1 and t": false, "v and 1": false, "(1 < 2) + k": false, "k + (1 < 2)": false, "t = (1 < 2)": false,
	} {
		expectConstant(t, parsed(t, s), want, 0)
	}
}

// P10.3: each kind of leaf alone, below each kind, and at all places of expressions of all sizes up to MaxNodes.
func TestConstantWithEachLeaf(t *testing.T) {
	one5 := number(5)
	for kind := uint8(1); kind <= 4; kind++ {
		leaf := one(kind)
		expectConstant(t, leaf.list(), kind == api.NoNumber, 0)
		expectConstant(t, one(5, leaf).list(), kind == 1, 0)
		expectConstant(t, one(6, leaf).list(), kind == 1, 0)
		for over := uint8(7); over <= 19; over++ {
			expectConstant(t, one(over, leaf, one5).list(), kind == 1, 0)
			expectConstant(t, one(over, one5, leaf).list(), kind == 1, 0)
			expectConstant(t, one(over, leaf, leaf).list(), kind == 1, 0)
			expectConstant(t, one(over, one(6, one5), one(5, leaf)).list(), kind == 1, 0)
		}
		for size := 1; size <= 60; size++ {
			l := bush(size, 8, one5).list()
			expectConstant(t, l, true, 0)
			for at, node := range l {
				if node.Kind == 1 {
					changed := slices.Clone(l)
					changed[at] = api.Node{Kind: kind, At: at}
					expectConstant(t, changed, kind == 1, 0)
				}
			}
		}
		for depth := 1; depth <= 20; depth++ {
			expectConstant(t, chain(depth, 5, leaf).list(), kind == 1, 0)
			expectConstant(t, chain(depth, 6, leaf).list(), kind == 1, 0)
		}
	}
}

// P10.3: all small trees, and large ones, typed and not.
func TestConstantOfTrees(t *testing.T) {
	counts := map[bool]int{}
	d := dice(3)
	for i, x := range append(trees(5), append(samples(2000, 47), append(typed(), untyped()...)...)...) {
		if i%5 == 0 {
			x = x.placed(d.placing())
		}
		expectConstant(t, x.list(), x.constant(), 0)
		counts[x.constant()]++
		expectConstant(t, x.numbered().list(), true, 0)
	}
	if counts[true] < 100 || counts[false] < 100 {
		t.Errorf("there are %v", counts)
	}
}

// P10.3: nodes.Check's errors, each one, of lists with fields and without.
func TestConstantOfLists(t *testing.T) {
	for _, x := range someExpressions() {
		want := x.code == 0 && !slices.ContainsFunc(x.l, func(node api.Node) bool { return node.Kind >= 2 && node.Kind <= 4 })
		expectConstant(t, x.l, want, x.code)
	}
	for kind := uint8(1); kind <= 4; kind++ {
		leaf := one(kind)
		expectConstant(t, bush(60, 8, leaf).list(), kind == 1, 0)
		expectConstant(t, bush(61, 8, leaf).list(), false, 4)
		expectConstant(t, bush(200, 8, leaf).list(), false, 4)
		expectConstant(t, chain(20, 6, leaf).list(), kind == 1, 0)
		expectConstant(t, chain(21, 6, leaf).list(), false, 34)
		expectConstant(t, chain(61, 5, leaf).list(), false, 4)
		expectConstant(t, []api.Node{{Kind: kind}, {Kind: kind}}, false, 8)
		expectConstant(t, []api.Node{{Kind: kind, At: 401}}, false, 8)
		expectConstant(t, []api.Node{{Kind: kind, At: -1}}, false, 8)
		expectConstant(t, []api.Node{{Kind: kind, A: 1}}, false, 8)
		expectConstant(t, []api.Node{{Kind: kind}, {Kind: 5, A: 1}}, false, 8)
		expectConstant(t, []api.Node{{Kind: kind}, {Kind: 8, A: 0, B: 0}}, false, 8)
		expectConstant(t, []api.Node{{Kind: kind}, {Kind: 20}}, false, 8)
	}
	for kind := range 256 {
		if kind < 1 || kind > 4 {
			expectConstant(t, []api.Node{{Kind: uint8(kind)}}, false, 8)
		}
	}
	// Each list of up to three of some nodes has nodes.Check's error.
	some := []api.Node{{Kind: 1, N: 3}, {Kind: 2}, {Kind: 4, At: 400}, {Kind: 5}, {Kind: 6, A: 1}, {Kind: 8, B: 1}, {Kind: 12, A: 1}, {Kind: 0}, {Kind: 3, N: 1}}
	for _, a := range some {
		for _, b := range some {
			for _, c := range some {
				for n := range 4 {
					l := []api.Node{a, b, c}[:n]
					e := nodes.Check(l)
					want := e == 0 && !slices.ContainsFunc(l, func(node api.Node) bool { return node.Kind > 1 && node.Kind < 5 })
					expectConstant(t, l, want, e)
				}
			}
		}
	}
}

// P10.4: a constant expression that is typed has the same value for all records, and one that is none uses a field.
func TestConstantsHaveOneValue(t *testing.T) {
	records := []api.Record{{}, {Key: 1, Time: 2, Value: 3}, {Key: -1, Time: -2, Value: -3}, {Key: math.MaxInt64, Time: math.MinInt64, Value: math.MaxInt64}, {Key: math.MinInt64, Time: math.MaxInt64, Value: math.MinInt64}, {Key: 5, Time: 70, Value: 900}}
	constants := 0
	for _, x := range append(trees(4), samples(1500, 53)...) {
		for _, y := range []*tree{x, x.numbered()} {
			l := y.list()
			is, e := Constant(l)
			key, time, value, f := evals.Uses(l)
			if e != 0 || f != 0 && f != 42 {
				t.Fatalf("Constant(%s) = %v, %d; Uses has the error %d", brief(l), is, e, f)
			}
			if f != 0 {
				continue
			}
			if is == (key || time || value) {
				t.Errorf("Constant(%s) = %v; Uses(%s) = %v, %v, %v", brief(l), is, brief(l), key, time, value)
			}
			if !is {
				continue
			}
			constants++
			want, _ := evals.Of(l, records[0])
			for _, r := range records {
				if n, e := evals.Of(l, r); n != want || e != 0 {
					t.Errorf("Of(%s, %v) = %d, %d; want %d", brief(l), r, n, e, want)
				}
			}
		}
	}
	if constants < 500 {
		t.Errorf("only %d are constant", constants)
	}
}

// P1 (R2): arguments are left as they were, also in front of and behind what is passed.
func TestArgumentsAreLeftAsTheyWere(t *testing.T) {
	node := api.Node{Kind: 77, N: 78, A: 79, B: 80, At: 81}
	within := func(l []api.Node) []api.Node {
		return slices.Concat([]api.Node{node, node}, l, []api.Node{node, node, node})
	}
	for i, x := range someExpressions() {
		for j, y := range someExpressions() {
			for _, list := range [][]int{{0}, {3, 1}, {2, 2}, {}, {0, 1, 2, 3, 3}} {
				arg, where, sources := within(x.l), within(y.l), slices.Concat([]int{91, 92}, list, []int{93, 94})
				argBefore, whereBefore, sourcesBefore := slices.Clone(arg), slices.Clone(where), slices.Clone(sources)
				q := some(i + j)
				q.Arg, q.Where, q.Sources = arg[2:2+len(x.l)], where[2:2+len(y.l)], sources[2:2+len(list)]
				Check(q)
				Constant(q.Arg)
				Constant(q.Where)
				if !slices.Equal(arg, argBefore) || !slices.Equal(where, whereBefore) || !slices.Equal(sources, sourcesBefore) {
					t.Errorf("%s, %s and %v were changed to %s, %s and %v", brief(argBefore), brief(whereBefore), sourcesBefore, brief(arg), brief(where), sources)
				}
			}
		}
	}
}

// overwrite sets all elements of a list, up to its capacity.
func overwrite[T any](l []T, x T) {
	l = l[:cap(l)]
	for i := range l {
		l[i] = x
	}
}

// P1 (R2): results share no memory with each other, and nothing is kept.
func TestResultsAreNewMemory(t *testing.T) {
	for _, s := range rightTexts() {
		want, _, _ := parser.Parse(s)
		q, _, _ := Compile(s)
		p, _, _ := Compile(s)
		overwrite(q.Arg, api.Node{Kind: 77, N: 78, A: 79, B: 80, At: 81})
		if !slices.Equal(q.Where, want.Where) || !slices.Equal(q.Sources, want.Sources) {
			t.Errorf("Compile(%q) has parts that share memory", s)
		}
		overwrite(q.Where, api.Node{Kind: 82, N: 83, A: 84, B: 85, At: 86})
		overwrite(q.Sources, 99)
		if !equal(p, want) {
			t.Errorf("Compile(%q) returned %+v, which was changed to %+v", s, want, p)
		}
		expectCompiled(t, s, want)
	}
}

// P1 (R2): what a call returns depends on its arguments alone, even if their memory changes behind it.
func TestCallsDependOnTheirArgumentsAlone(t *testing.T) {
	q := with(one(4).placed(func(int) int { return 9 }), one(12, one(4), number(1)).placed(func(i int) int { return 30 + i }), 1)
	for range 3 {
		expectCheck(t, q, 0, 0)
		expectConstant(t, q.Arg, false, 0)
		q.Where[2].Kind = 8
		expectCheck(t, q, 32, 42)
		q.Where[2].A = 1
		expectCheck(t, q, 0, 8)
		q.Where[2].A, q.Where[2].Kind = 0, 17
		expectCheck(t, q, 0, 0)
		q.Arg[0].Kind = 1
		expectConstant(t, q.Arg, true, 0)
		q.Arg[0].Kind = 0
		expectConstant(t, q.Arg, false, 8)
		expectCheck(t, q, 0, 8)
		q.Arg[0].Kind = 4
		expectNotCompiled(t, "select sum(v < 1) from a window tumble 5", 13, 42)
		expectNotCompiled(t, "select sum(v) from a", 20, 12)
		expectCompiled(t, "select sum(v) from a window tumble 5", api.Query{Agg: 2, Arg: []api.Node{{Kind: 4, At: 11}}, Sources: []int{0}, Window: api.Window{Kind: 1, Size: 5}, Late: 1})
	}
}

// P1 (R7): all kinds of arguments, however long or odd.
func TestOddArguments(t *testing.T) {
	expectCheck(t, api.Query{}, 0, 8)
	long := slices.Repeat([]api.Node{{Kind: 4}}, 100000)
	expectConstant(t, long, false, 4)
	expectCheck(t, api.Query{Agg: 2, Arg: long, Where: long, Sources: []int{0}, Window: api.Window{Kind: 1, Size: 1}, Late: 1}, 0, 4)
	expectCheck(t, api.Query{Agg: 1, Where: long, Sources: []int{0}, Window: api.Window{Kind: 1, Size: 1}, Late: 1}, 0, 4)
	expectCheck(t, api.Query{Agg: 1, Arg: long, Sources: []int{0}, Window: api.Window{Kind: 1, Size: 1}, Late: 1}, 0, 8)
	expectCheck(t, api.Query{Agg: 1, Sources: make([]int, 100000), Window: api.Window{Kind: 1, Size: 1}, Late: 1}, 0, 4)
	expectCheck(t, api.Query{Agg: 1, Sources: []int{math.MinInt, math.MaxInt}, Window: api.Window{Kind: 1, Size: 1}, Late: 1}, 0, 8)
	expectCheck(t, api.Query{Agg: 1, Sources: []int{0}, Window: api.Window{Kind: 2, Size: math.MaxInt64, Every: math.MinInt64}, Late: 1}, 0, 8)
	for _, n := range []int{math.MinInt, -1, 1, 2, 401, math.MaxInt} {
		for _, node := range []api.Node{{Kind: 5, A: n}, {Kind: 12, A: n, B: n}, {Kind: 4, At: n}, {Kind: 1, N: int64(-n)}} {
			l := []api.Node{{Kind: 4}, node}
			e := nodes.Check(l)
			expectConstant(t, l, false, e)
			q := some(1)
			q.Arg, q.Where = l, l
			expectCheck(t, q, 0, e)
		}
	}
	for _, x := range []mistake{
		{strings.Repeat("(", 1000000), 0, 4}, {"select sum(" + strings.Repeat("(", 189), 200, 12}, {"select sum(" + strings.Repeat("(", 300), 208, 4}, {"select count(*) from a where " + strings.Repeat("not ", 90), 389, 12}, {"\x00", 0, 32}, {"\xff\xfe", 0, 32}, {"select\u00a0count(*)", 6, 32},
	} {
		expectNotCompiled(t, x.s, x.at, x.code)
	}
}
