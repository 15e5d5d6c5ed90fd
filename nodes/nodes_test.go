package nodes

import (
	"math"
	"slices"
	"testing"

	"tailwater/api"
)

// The tests have expressions as trees, and their lists from these, part by part: so they count nothing as the package does.

// tree is an expression.
type tree struct {
	kind  uint8
	n     int64
	at    int
	parts []*tree
}

// wantedParts is how many parts a kind has, or -1.
func wantedParts(kind uint8) int {
	switch kind {
	case 1, 2, 3, 4:
		return 0
	case 5, 6:
		return 1
	case 7, 8, 9, 10, 11, 12, 13, 14, 15, 16, 17, 18, 19:
		return 2
	}
	return -1
}

// behind returns a list with the nodes of a tree behind it, in their order.
func (x *tree) behind(l []api.Node) []api.Node {
	node := api.Node{Kind: x.kind, N: x.n, At: x.at}
	for i, part := range x.parts {
		l = part.behind(l)
		if i == 0 {
			node.A = len(l) - 1
		} else {
			node.B = len(l) - 1
		}
	}
	return append(l, node)
}

// list returns the nodes of a tree.
func (x *tree) list() []api.Node { return x.behind(nil) }

// all returns a tree and those of its parts, in the order of their nodes.
func (x *tree) all() []*tree {
	l := []*tree{}
	for _, part := range x.parts {
		l = append(l, part.all()...)
	}
	return append(l, x)
}

// depth returns how deep a tree is.
func (x *tree) depth() int {
	d := 0
	for _, part := range x.parts {
		d = max(d, part.depth())
	}
	return d + 1
}

// read returns the tree that the kinds of a list tell from its end on, if they do, and how many nodes are left in front.
func read(l []api.Node) (*tree, int) {
	if len(l) == 0 {
		return nil, 0
	}
	left := len(l) - 1
	last := l[left]
	x := &tree{kind: last.Kind, n: last.N, at: last.At}
	for range wantedParts(last.Kind) {
		part, n := read(l[:left])
		if part == nil {
			return nil, 0
		}
		x.parts = append([]*tree{part}, x.parts...)
		left = n
	}
	return x, left
}

// wantedCheck returns what Check has to return.
func wantedCheck(l []api.Node) api.Errno {
	if len(l) > 60 {
		return 4
	}
	for _, node := range l {
		if wantedParts(node.Kind) < 0 || node.N < 0 || node.N > 0 && node.Kind != 1 || node.At < 0 || node.At > 400 {
			return 8
		}
	}
	x, left := read(l)
	if x == nil || left > 0 || !slices.Equal(x.list(), l) {
		return 8
	}
	if x.depth() > 20 {
		return 34
	}
	return 0
}

// wantedNode returns what Node has to return.
func wantedNode(kind uint8, n int64, at int, parts ...[]api.Node) ([]api.Node, api.Errno) {
	if wantedParts(kind) != len(parts) || n < 0 || n > 0 && kind != 1 || at < 0 || at > 400 {
		return nil, 2
	}
	x := &tree{kind: kind, n: n, at: at}
	for _, l := range parts {
		if e := wantedCheck(l); e != 0 {
			return nil, e
		}
		part, _ := read(l)
		x.parts = append(x.parts, part)
	}
	l := x.list()
	if e := wantedCheck(l); e != 0 {
		return nil, e
	}
	return l, 0
}

// wantedSame reports whether two lists are the same, but for At.
func wantedSame(a, b []api.Node) bool {
	return slices.EqualFunc(a, b, func(x, y api.Node) bool { return x.Kind == y.Kind && x.N == y.N && x.A == y.A && x.B == y.B })
}

// expectCheck checks what Check returns.
func expectCheck(t *testing.T, l []api.Node, want api.Errno) {
	t.Helper()
	if e := Check(l); e != want {
		t.Errorf("Check(%v) = %d; want %d", l, e, want)
	}
}

// expectDepth checks what Depth returns.
func expectDepth(t *testing.T, l []api.Node, want int, code api.Errno) {
	t.Helper()
	if d, e := Depth(l); d != want || e != code {
		t.Errorf("Depth(%v) = %d, %d; want %d, %d", l, d, e, want, code)
	}
}

// expectSize checks what Size returns.
func expectSize(t *testing.T, l []api.Node, at, want int, code api.Errno) {
	t.Helper()
	if n, e := Size(l, at); n != want || e != code {
		t.Errorf("Size(%v, %d) = %d, %d; want %d, %d", l, at, n, e, want, code)
	}
}

// expectPart checks what Part returns.
func expectPart(t *testing.T, l []api.Node, at int, want []api.Node, code api.Errno) {
	t.Helper()
	if p, e := Part(l, at); !slices.Equal(p, want) || e != code {
		t.Errorf("Part(%v, %d) = %v, %d; want %v, %d", l, at, p, e, want, code)
	}
}

// expectSame checks what Same returns, in both directions if there is no error.
func expectSame(t *testing.T, a, b []api.Node, want bool, code api.Errno) {
	t.Helper()
	if same, e := Same(a, b); same != want || e != code {
		t.Errorf("Same(%v, %v) = %v, %d; want %v, %d", a, b, same, e, want, code)
	}
	if same, e := Same(b, a); code == 0 && (same != want || e != 0) {
		t.Errorf("Same(%v, %v) = %v, %d; want %v, %d", b, a, same, e, want, code)
	}
}

// compareNode compares Node with the chapter.
func compareNode(t *testing.T, kind uint8, n int64, at int, parts ...[]api.Node) {
	t.Helper()
	want, code := wantedNode(kind, n, at, parts...)
	if l, e := Node(kind, n, at, parts...); !slices.Equal(l, want) || e != code {
		t.Errorf("Node(%d, %d, %d, %v) = %v, %d; want %v, %d", kind, n, at, parts, l, e, want, code)
	}
}

// expectNode checks which error Node returns, and that there is nothing else beside it.
func expectNode(t *testing.T, want api.Errno, kind uint8, n int64, at int, parts ...[]api.Node) {
	t.Helper()
	if l, e := Node(kind, n, at, parts...); e != want || want != 0 && len(l) > 0 {
		t.Errorf("Node(%d, %d, %d, %v) = %v, %d; want %d", kind, n, at, parts, l, e, want)
	}
	compareNode(t, kind, n, at, parts...)
}

// compareList compares what the functions give for a list with the chapter.
func compareList(t *testing.T, l []api.Node) {
	t.Helper()
	code := wantedCheck(l)
	expectCheck(t, l, code)
	for _, at := range []int{math.MinInt, -2, -1, len(l), len(l) + 1, 60, 1 << 32, math.MaxInt} {
		want := code
		if want == 0 {
			want = 2
		}
		expectSize(t, l, at, 0, want)
		expectPart(t, l, at, nil, want)
	}
	if code != 0 {
		expectDepth(t, l, 0, code)
		expectSame(t, l, l, false, code)
		for _, at := range []int{0, 1, len(l) / 2, len(l) - 1} {
			expectSize(t, l, at, 0, code)
			expectPart(t, l, at, nil, code)
		}
		return
	}
	x, _ := read(l)
	expectDepth(t, l, x.depth(), 0)
	expectSame(t, l, l, true, 0)
	for at, part := range x.all() {
		expectSize(t, l, at, len(part.all()), 0)
		expectPart(t, l, at, part.list(), 0)
	}
}

func number(n int64, at int) *tree { return &tree{kind: 1, n: n, at: at} }

func over(kind uint8, at int, parts ...*tree) *tree { return &tree{kind: kind, at: at, parts: parts} }

// example is v + 2 * k, as the chapter has it.
func example() []api.Node {
	return []api.Node{{Kind: 4}, {Kind: 1, N: 2, At: 4}, {Kind: 2, At: 8}, {Kind: 7, A: 1, B: 2, At: 6}, {Kind: 8, A: 0, B: 3, At: 2}}
}

// values are one value a node: "v", one behind the other, which is no expression if it is not one alone.
func values(count int) []api.Node { return slices.Repeat([]api.Node{{Kind: 4}}, count) }

// chain is v below nodes with one part, as deep as it says.
func chain(depth int) *tree {
	x := over(4, 0)
	for i := range depth - 1 {
		x = over(5+uint8(i%2), i%401, x)
	}
	return x
}

// comb is as deep as it says by parts on one side, the first or the second one, with leaves on the other side.
func comb(depth, side int) *tree {
	x := over(4, 400)
	for i := range depth - 1 {
		kind := 7 + uint8(i%13)
		if side == 0 {
			x = over(kind, i, x, number(int64(i), i))
		} else {
			x = over(kind, i, over(2, i), x)
		}
	}
	return x
}

// grown is a tree of some nodes, by a rule that always picks the same ones.
func grown(state *uint32, size int) *tree {
	pick := func(n int) int {
		*state = *state*1664525 + 1013904223
		return int(*state>>16) % n
	}
	at := pick(401)
	switch {
	case size == 1 && pick(2) == 0:
		return number(int64(pick(3))*(math.MaxInt64/2), at)
	case size == 1:
		return over(2+uint8(pick(3)), at)
	case size == 2 || pick(5) == 0:
		return over(5+uint8(pick(2)), at, grown(state, size-1))
	}
	first := 1 + pick(size-2)
	kind := 7 + uint8(pick(13))
	return over(kind, at, grown(state, first), grown(state, size-1-first))
}

// samples are expressions: small ones, those at the limits, and some of each size.
func samples() []*tree {
	l := []*tree{
		number(0, 0), number(7, 400), number(math.MaxInt64, 1), over(2, 0), over(3, 400), over(4, 3), over(5, 0, over(4, 1)), over(6, 9, number(1, 5)),
		over(8, 2, over(4, 0), over(7, 6, number(2, 4), over(2, 8))), over(7, 6, over(8, 2, over(4, 0), number(2, 4)), over(2, 8)),
		over(9, 0, over(5, 0, over(2, 0)), over(6, 0, over(3, 0))),
		chain(19), chain(20), comb(19, 0), comb(20, 0), comb(19, 1), comb(20, 1),
		over(18, 7, comb(18, 0), chain(19)), over(19, 7, chain(19), comb(17, 1)), over(10, 0, over(4, 0), chain(19)), over(11, 0, chain(19), over(4, 0)),
		over(12, 0, chain(3), comb(5, 0)), over(13, 0, comb(5, 0), chain(3)),
	}
	for kind := uint8(7); kind <= 19; kind++ {
		l = append(l, over(kind, int(kind), over(4, 0), number(int64(kind), 400)))
	}
	state := uint32(1)
	for i := range 240 {
		if x := grown(&state, 1+i%60); x.depth() <= 20 {
			l = append(l, x)
		}
	}
	return l
}

// deepSamples are expressions that are valid but for their depth.
func deepSamples() []*tree {
	l := []*tree{
		chain(21), chain(22), chain(40), chain(60), comb(21, 0), comb(30, 0), comb(21, 1), comb(30, 1),
		over(8, 0, chain(20), over(4, 0)), over(8, 0, over(4, 0), chain(20)), over(8, 0, chain(20), chain(20)), over(5, 0, comb(20, 0)), over(8, 0, chain(39), comb(10, 1)),
	}
	state := uint32(2)
	for size := 3; size <= 40; size++ {
		x := grown(&state, size)
		for x.depth() < 21+size%3 {
			x = over(8, size, number(int64(size), 1), over(6, size, x))
		}
		if len(x.list()) <= 60 {
			l = append(l, x)
		}
	}
	return l
}

// changes are a list with one thing of one node changed to another value, in each way that the tests look at.
func changes(l []api.Node, at int) [][]api.Node {
	all := [][]api.Node{}
	add := func(node api.Node) {
		if node != l[at] {
			c := slices.Clone(l)
			c[at] = node
			all = append(all, c)
		}
	}
	old := l[at]
	for kind := range uint8(22) {
		add(api.Node{Kind: kind, N: old.N, A: old.A, B: old.B, At: old.At})
	}
	add(api.Node{Kind: 255, N: old.N, A: old.A, B: old.B, At: old.At})
	for _, n := range []int64{math.MinInt64, -1, 0, 1, old.N ^ 1, math.MaxInt64} {
		add(api.Node{Kind: old.Kind, N: n, A: old.A, B: old.B, At: old.At})
	}
	indices := []int{math.MinInt, -1, len(l), 60, 1 << 32, math.MaxInt}
	for i := range l {
		indices = append(indices, i)
	}
	for _, i := range indices {
		add(api.Node{Kind: old.Kind, N: old.N, A: i, B: old.B, At: old.At})
		add(api.Node{Kind: old.Kind, N: old.N, A: old.A, B: i, At: old.At})
	}
	for _, place := range []int{math.MinInt, -1, 0, 1, 399, 400, 401, 1 << 32, math.MaxInt} {
		add(api.Node{Kind: old.Kind, N: old.N, A: old.A, B: old.B, At: place})
	}
	return all
}

// P4.1 and P4.2: the example of the chapter.
func TestTheExample(t *testing.T) {
	l := example()
	expectCheck(t, l, 0)
	expectDepth(t, l, 3, 0)
	for at, size := range []int{1, 1, 1, 3, 5} {
		expectSize(t, l, at, size, 0)
	}
	expectPart(t, l, 0, []api.Node{{Kind: 4}}, 0)
	expectPart(t, l, 1, []api.Node{{Kind: 1, N: 2, At: 4}}, 0)
	expectPart(t, l, 2, []api.Node{{Kind: 2, At: 8}}, 0)
	expectPart(t, l, 3, []api.Node{{Kind: 1, N: 2, At: 4}, {Kind: 2, At: 8}, {Kind: 7, A: 0, B: 1, At: 6}}, 0)
	expectPart(t, l, 4, example(), 0)
	compareList(t, l)
}

// P4.1: how many parts each kind has, by numbers and by names.
func TestPartsOfEachKind(t *testing.T) {
	for kind := range 256 {
		want, code := wantedParts(uint8(kind)), api.OK
		if want < 0 {
			want, code = 0, api.ErrArg
		}
		if n, e := Parts(uint8(kind)); n != want || e != code {
			t.Errorf("Parts(%d) = %d, %d; want %d, %d", kind, n, e, want, code)
		}
	}
	for count, kinds := range [][]uint8{
		{api.NoNumber, api.NoKey, api.NoTime, api.NoValue},
		{api.NoNeg, api.NoNot},
		{api.NoMul, api.NoAdd, api.NoSub, api.NoShl, api.NoShr, api.NoLess, api.NoAtMost, api.NoMore, api.NoLeast, api.NoEqual, api.NoOther, api.NoAnd, api.NoOr},
	} {
		for _, kind := range kinds {
			if n, e := Parts(kind); n != count || e != api.OK {
				t.Errorf("Parts(%d) = %d, %d; want %d", kind, n, e, count)
			}
		}
	}
}

// P4.1: expressions of each kind, and their depths.
func TestCheckOfExpressions(t *testing.T) {
	for _, x := range []struct {
		l     []api.Node
		depth int
	}{
		{[]api.Node{{Kind: 1}}, 1}, {[]api.Node{{Kind: 1, N: math.MaxInt64, At: 400}}, 1}, {[]api.Node{{Kind: 2}}, 1}, {[]api.Node{{Kind: 3, At: 1}}, 1}, {[]api.Node{{Kind: 4, At: 400}}, 1},
		{[]api.Node{{Kind: 4}, {Kind: 5}}, 2}, {[]api.Node{{Kind: 4}, {Kind: 6, At: 400}}, 2}, {[]api.Node{{Kind: 4}, {Kind: 5}, {Kind: 6, A: 1}}, 3},
		{[]api.Node{{Kind: 4}, {Kind: 4}, {Kind: 7, B: 1}}, 2}, {[]api.Node{{Kind: 4}, {Kind: 2}, {Kind: 19, B: 1}, {Kind: 6, A: 2}}, 3},
		{[]api.Node{{Kind: 4}, {Kind: 5}, {Kind: 4}, {Kind: 8, A: 1, B: 2}}, 3}, {[]api.Node{{Kind: 4}, {Kind: 4}, {Kind: 5, A: 1}, {Kind: 8, A: 0, B: 2}}, 3},
		{[]api.Node{{Kind: 4}, {Kind: 4}, {Kind: 9, B: 1}, {Kind: 4}, {Kind: 9, A: 2, B: 3}}, 3},
		{[]api.Node{{Kind: 4}, {Kind: 4}, {Kind: 9, B: 1}, {Kind: 4}, {Kind: 4}, {Kind: 9, A: 3, B: 4}, {Kind: 12, A: 2, B: 5}}, 3},
		{[]api.Node{{Kind: 4}, {Kind: 5}, {Kind: 5, A: 1}, {Kind: 4}, {Kind: 5, A: 3}, {Kind: 8, A: 2, B: 4}}, 4},
		{[]api.Node{{Kind: 4}, {Kind: 5}, {Kind: 4}, {Kind: 5, A: 2}, {Kind: 5, A: 3}, {Kind: 8, A: 1, B: 4}}, 4},
	} {
		expectCheck(t, x.l, 0)
		expectDepth(t, x.l, x.depth, 0)
		compareList(t, x.l)
	}
	for _, x := range samples() {
		expectCheck(t, x.list(), 0)
		compareList(t, x.list())
	}
}

// P4.1: lists that are no expressions, each for one reason.
func TestCheckRefusesOtherLists(t *testing.T) {
	for _, x := range []struct {
		why   string
		lists [][]api.Node
	}{
		{"a kind", [][]api.Node{
			{{}}, {{Kind: 20}}, {{Kind: 255}}, {{Kind: 0}, {Kind: 5}}, {{Kind: 4}, {Kind: 0}}, {{Kind: 4}, {Kind: 20}}, {{Kind: 4}, {Kind: 4}, {Kind: 20, B: 1}},
		}},
		{"N", [][]api.Node{
			{{Kind: 1, N: -1}}, {{Kind: 1, N: math.MinInt64}}, {{Kind: 1, N: -1}, {Kind: 5}}, {{Kind: 2, N: 1}}, {{Kind: 3, N: 1}}, {{Kind: 4, N: 1}}, {{Kind: 4, N: -1}},
			{{Kind: 4}, {Kind: 5, N: 1}}, {{Kind: 4}, {Kind: 6, N: -7}}, {{Kind: 4}, {Kind: 4}, {Kind: 7, N: 1, B: 1}}, {{Kind: 4, N: 1}, {Kind: 4}, {Kind: 7, B: 1}},
		}},
		{"At", [][]api.Node{
			{{Kind: 1, At: -1}}, {{Kind: 1, At: 401}}, {{Kind: 4, At: -1}}, {{Kind: 4, At: 401}}, {{Kind: 4, At: math.MaxInt}}, {{Kind: 4, At: math.MinInt}},
			{{Kind: 4, At: 401}, {Kind: 5}}, {{Kind: 4}, {Kind: 5, At: -1}}, {{Kind: 4}, {Kind: 4, At: 401}, {Kind: 7, B: 1}}, {{Kind: 4}, {Kind: 4}, {Kind: 7, B: 1, At: 401}},
		}},
		{"what is not used", [][]api.Node{
			{{Kind: 1, A: 1}}, {{Kind: 1, B: 1}}, {{Kind: 4, A: -1}}, {{Kind: 4, B: -1}}, {{Kind: 4}, {Kind: 5, B: 1}}, {{Kind: 4}, {Kind: 6, B: -1}},
			{{Kind: 4}, {Kind: 2, A: 1}, {Kind: 7, B: 1}}, {{Kind: 4}, {Kind: 5}, {Kind: 5, A: 1, B: 1}},
		}},
		{"the index of the only part", [][]api.Node{
			{{Kind: 4}, {Kind: 5, A: 1}}, {{Kind: 4}, {Kind: 5, A: -1}}, {{Kind: 4}, {Kind: 5, A: 2}},
			{{Kind: 4}, {Kind: 5}, {Kind: 5, A: 0}}, {{Kind: 4}, {Kind: 5}, {Kind: 5, A: 2}}, {{Kind: 4}, {Kind: 5}, {Kind: 5, A: 3}},
		}},
		{"the index of one of two parts", [][]api.Node{
			{{Kind: 4}, {Kind: 4}, {Kind: 7, A: 1, B: 0}}, {{Kind: 4}, {Kind: 4}, {Kind: 7, A: 1, B: 1}}, {{Kind: 4}, {Kind: 4}, {Kind: 7}},
			{{Kind: 4}, {Kind: 4}, {Kind: 7, B: 2}}, {{Kind: 4}, {Kind: 4}, {Kind: 7, A: -1, B: 1}}, {{Kind: 4}, {Kind: 4}, {Kind: 7, A: 2, B: 1}}, {{Kind: 4}, {Kind: 4}, {Kind: 7, B: math.MaxInt}},
			{{Kind: 4}, {Kind: 4}, {Kind: 5, A: 1}, {Kind: 8, A: 1, B: 2}}, {{Kind: 4}, {Kind: 4}, {Kind: 5, A: 1}, {Kind: 8, A: 0, B: 1}}, {{Kind: 4}, {Kind: 5}, {Kind: 4}, {Kind: 8, A: 0, B: 2}},
		}},
		{"no node that could be a part", [][]api.Node{
			{{Kind: 5}}, {{Kind: 6, A: -1}}, {{Kind: 7}}, {{Kind: 7, A: -2, B: -1}}, {{Kind: 4}, {Kind: 7, A: -1}}, {{Kind: 4}, {Kind: 7}},
			{{Kind: 4}, {Kind: 5}, {Kind: 8, A: -1, B: 1}}, {{Kind: 4}, {Kind: 5}, {Kind: 8, A: 0, B: 1}},
		}},
		{"a node that is a part of none, or no node", [][]api.Node{
			nil, {}, values(2), values(3), values(60), {{Kind: 4}, {Kind: 4}, {Kind: 5, A: 1}}, {{Kind: 4}, {Kind: 5}, {Kind: 4}},
			{{Kind: 4}, {Kind: 4}, {Kind: 4}, {Kind: 7, A: 1, B: 2}}, {{Kind: 4}, {Kind: 4}, {Kind: 7, B: 1}, {Kind: 4}},
			append(values(1), example()...), append(example(), values(1)...), append(example(), example()...),
		}},
		{"a node that is a part of two", [][]api.Node{
			{{Kind: 4}, {Kind: 5}, {Kind: 8, A: 1, B: 1}}, {{Kind: 4}, {Kind: 8}, {Kind: 8, A: 1, B: 1}}, {{Kind: 4}, {Kind: 4}, {Kind: 8, B: 1}, {Kind: 9, A: 1, B: 2}},
		}},
		{"another order", [][]api.Node{
			{{Kind: 5, A: 1}, {Kind: 4}}, {{Kind: 8, A: 1, B: 2}, {Kind: 4}, {Kind: 4}}, {{Kind: 4}, {Kind: 8, A: 0, B: 2}, {Kind: 4}}, {{Kind: 4}, {Kind: 8, A: 2, B: 0}, {Kind: 4}},
		}},
	} {
		for _, l := range x.lists {
			if e := Check(l); e != 8 {
				t.Errorf("%s: Check(%v) = %d; want 8", x.why, l, e)
			}
			compareList(t, l)
		}
	}
}

// enumerate returns the lists of all trees of some nodes that have the kinds NoValue, NoNeg and NoAdd.
func enumerate(size int) []*tree {
	if size == 1 {
		return []*tree{over(4, 0)}
	}
	l := []*tree{}
	for _, x := range enumerate(size - 1) {
		l = append(l, over(5, 0, x))
	}
	for first := 1; first < size-1; first++ {
		for _, x := range enumerate(first) {
			for _, y := range enumerate(size - 1 - first) {
				l = append(l, over(8, 0, x, y))
			}
		}
	}
	return l
}

// P4.1: of all lists of up to four nodes that have three kinds and some indices, just those of trees are expressions.
func TestCheckOfAllShortLists(t *testing.T) {
	for _, x := range []struct{ size, least, greatest, wanted int }{{0, 0, 0, 0}, {1, -2, 4, 1}, {2, -2, 4, 1}, {3, -1, 3, 2}, {4, 0, 2, 4}} {
		size := x.size
		valid := map[[4]api.Node]bool{}
		if size > 0 {
			for _, y := range enumerate(size) {
				key := [4]api.Node{}
				copy(key[:], y.list())
				valid[key] = true
			}
		}
		some := []api.Node{}
		for _, kind := range []uint8{4, 5, 8} {
			for a := x.least; a <= x.greatest; a++ {
				for b := x.least; b <= x.greatest; b++ {
					some = append(some, api.Node{Kind: kind, A: a, B: b})
				}
			}
		}
		key, found := [4]api.Node{}, 0
		var fill func(at int)
		fill = func(at int) {
			if at == size {
				e := Check(key[:size])
				if e != 0 && e != 8 || (e == 0) != valid[key] {
					t.Errorf("Check(%v) = %d", key[:size], e)
				}
				if e == 0 {
					found++
				}
				return
			}
			for _, node := range some {
				key[at] = node
				fill(at + 1)
			}
			key[at] = api.Node{}
		}
		fill(0)
		if found != x.wanted {
			t.Errorf("%d expressions of %d nodes; want %d", found, size, x.wanted)
		}
	}
}

// P4.1 and P4.2: expressions with one thing of one node changed, with nodes taken away, doubled or turned round.
func TestListsThatAreNearlyExpressions(t *testing.T) {
	trees := append(samples(), deepSamples()[:9]...)
	for i, x := range trees {
		l := x.list()
		for at := i % 3; at < len(l); at += 1 + len(l)/8 {
			for _, c := range changes(l, at) {
				expectCheck(t, c, wantedCheck(c))
			}
			compareList(t, slices.Delete(slices.Clone(l), at, at+1))
			compareList(t, slices.Insert(slices.Clone(l), at, l[at]))
			compareList(t, l[:at])
			compareList(t, l[at:])
			turned := slices.Clone(l)
			turned[at], turned[at/2] = l[at/2], l[at]
			compareList(t, turned)
		}
		if len(l) <= 7 {
			for at := range l {
				for _, c := range changes(l, at) {
					compareList(t, c)
				}
			}
		}
	}
}

// P4.1: the depth MaxDepth, and one more: by each side.
func TestCheckOfDeepExpressions(t *testing.T) {
	for depth := 1; depth <= 30; depth++ {
		for _, x := range []*tree{chain(depth), comb(depth, 0), comb(depth, 1)} {
			code, want := api.OK, depth
			if depth > 20 {
				code, want = api.ErrDeep, 0
			}
			expectCheck(t, x.list(), code)
			expectDepth(t, x.list(), want, code)
		}
	}
	for _, x := range deepSamples() {
		expectCheck(t, x.list(), 34)
		compareList(t, x.list())
	}
	for _, x := range []*tree{over(8, 0, chain(19), chain(19)), over(8, 0, chain(19), over(4, 0)), over(8, 0, over(4, 0), chain(19)), over(5, 0, comb(19, 0)), over(5, 0, comb(19, 1))} {
		expectDepth(t, x.list(), 20, 0)
	}
}

// balanced is a tree of some nodes that is no deeper than it has to be.
func balanced(size int) *tree {
	if size == 1 {
		return over(4, 0)
	}
	if size%2 == 0 {
		return over(5, 0, balanced(size-1))
	}
	first := (size - 1) / 2
	first += 1 - first%2
	return over(8, 0, balanced(first), balanced(size-1-first))
}

// P4.1, and R1: MaxNodes nodes, and one more, which comes ahead of what is not valid, and this ahead of too deep.
func TestCheckOfManyNodes(t *testing.T) {
	for size := 57; size <= 64; size++ {
		want := api.OK
		if size > 60 {
			want = api.ErrMany
		}
		l := balanced(size).list()
		if len(l) != size {
			t.Fatalf("%d nodes; want %d", len(l), size)
		}
		expectCheck(t, l, want)
		compareList(t, l)
	}
	for _, l := range [][]api.Node{
		values(61), values(1000), make([]api.Node, 61), make([]api.Node, 1<<16), chain(61).list(), chain(200).list(), comb(31, 0).list(), comb(40, 1).list(),
		append(balanced(60).list(), api.Node{}), append([]api.Node{{Kind: 20}}, balanced(60).list()...), append(balanced(60).list(), api.Node{Kind: 5, A: 59, N: 1}), append(balanced(60).list(), api.Node{Kind: 5, A: 59, At: -1}),
	} {
		expectCheck(t, l, 4)
		compareList(t, l)
	}
	for _, x := range []*tree{chain(60), chain(21), comb(30, 0), comb(21, 1)} {
		size := len(x.list())
		for _, at := range []int{0, 1, size / 2, size - 1} {
			for _, node := range []api.Node{{}, {Kind: 4, N: 1}, {Kind: 4, At: 401}, {Kind: 4, A: 1}, {Kind: 8, A: 70, B: 3}} {
				l := x.list()
				l[at] = node
				expectCheck(t, l, 8)
				compareList(t, l)
			}
		}
		if size < 60 {
			expectCheck(t, append(x.list(), api.Node{Kind: 4}), 8)
			expectCheck(t, append(values(1), x.list()...), 8)
		}
	}
}

// P4.2, and R1: an index that is none, and what comes ahead of it.
func TestSizeAndPartRefuseOtherIndices(t *testing.T) {
	for _, x := range []struct {
		l    []api.Node
		want api.Errno
	}{
		{example(), 2}, {values(1), 2}, {balanced(60).list(), 2}, {nil, 8}, {values(2), 8}, {values(61), 4}, {chain(21).list(), 34},
	} {
		for _, at := range []int{-1, -2, len(x.l), len(x.l) + 1, 60, 61, math.MinInt, math.MaxInt, 1 << 32, -1 << 32} {
			expectSize(t, x.l, at, 0, x.want)
			expectPart(t, x.l, at, nil, x.want)
		}
		if x.want != 2 {
			expectSize(t, x.l, 0, 0, x.want)
			expectPart(t, x.l, 0, nil, x.want)
		}
	}
}

// P4.2: expressions that differ in At alone, at one node or at all of them.
func TestSameWithOtherPlaces(t *testing.T) {
	for _, x := range samples() {
		l := x.list()
		all := slices.Clone(l)
		for at := range l {
			one := slices.Clone(l)
			one[at].At = 400 - l[at].At
			expectSame(t, l, one, true, 0)
			one[at].At = (l[at].At + 1) % 401
			expectSame(t, l, one, true, 0)
			all[at].At = (l[at].At + at) % 401
		}
		expectSame(t, l, all, true, 0)
		expectSame(t, slices.Clone(l), l, true, 0)
	}
}

// P4.2: expressions that differ in one other thing alone: a kind, a number, or how they are put together.
func TestSameTellsOthers(t *testing.T) {
	v, k, two := over(4, 0), over(2, 0), number(2, 0)
	for _, x := range []struct{ a, b *tree }{
		{v, k}, {v, two}, {two, number(3, 0)}, {number(0, 0), number(math.MaxInt64, 0)}, {number(0, 0), v}, {v, over(5, 0, v)}, {over(5, 0, v), over(6, 0, v)}, {over(5, 0, v), over(5, 0, k)},
		{over(5, 0, v), over(5, 0, over(5, 0, v))}, {over(9, 0, v, k), over(9, 0, k, v)}, {over(9, 0, v, k), over(8, 0, v, k)}, {over(9, 0, v, two), over(9, 0, v, number(1, 0))}, {over(9, 0, two, v), over(9, 0, number(1, 0), v)},
		{over(9, 0, v, over(9, 0, v, v)), over(9, 0, over(9, 0, v, v), v)}, {over(8, 0, over(5, 0, v), v), over(8, 0, v, over(5, 0, v))}, {over(5, 0, over(8, 0, v, v)), over(8, 0, over(5, 0, v), v)},
		{over(9, 0, v, over(7, 0, v, v)), over(9, 0, over(7, 0, v, v), v)}, {chain(20), chain(19)}, {comb(20, 0), comb(20, 1)}, {chain(20), over(5, 0, comb(10, 0))},
	} {
		expectSame(t, x.a.list(), x.b.list(), false, 0)
	}
	trees := samples()
	for i, x := range trees {
		for j, y := range trees {
			a, b := x.list(), y.list()
			if i < j {
				expectSame(t, a, b, wantedSame(a, b), 0)
			}
		}
	}
}

// P4.2, and R1: the error of the first expression that has one, whatever the other one is.
func TestSameReturnsTheFirstError(t *testing.T) {
	lists := [][]api.Node{example(), values(1), balanced(60).list(), nil, values(2), {{Kind: 4, At: 401}}, values(61), balanced(61).list(), chain(21).list(), comb(30, 1).list()}
	for _, a := range lists {
		for _, b := range lists {
			want := wantedCheck(a)
			if want == 0 {
				want = wantedCheck(b)
			}
			expectSame(t, a, b, want == 0 && wantedSame(a, b), want)
		}
	}
	expectSame(t, values(2), values(61), false, 8)
	expectSame(t, values(61), values(2), false, 4)
	expectSame(t, chain(21).list(), values(2), false, 34)
	expectSame(t, values(1), chain(21).list(), false, 34)
	expectSame(t, nil, nil, false, 8)
}

// P4.3: nodes with parts of each kind, with the least and the greatest N and At.
func TestNodeOfEachKind(t *testing.T) {
	v, sum := values(1), over(8, 3, over(2, 1), number(7, 5)).list()
	for kind := range 256 {
		for _, parts := range [][][]api.Node{nil, {}, {v}, {sum}, {v, v}, {v, sum}, {sum, v}, {sum, sum}, {v, v, v}, {v, v, v, v}} {
			for _, n := range []int64{math.MinInt64, -1, 0, 1, math.MaxInt64} {
				for _, at := range []int{math.MinInt, -1, 0, 1, 399, 400, 401, 1 << 32, math.MaxInt} {
					compareNode(t, uint8(kind), n, at, parts...)
				}
			}
		}
	}
	l, e := Node(api.NoSub, 0, 400, sum, sum)
	want := []api.Node{{Kind: 2, At: 1}, {Kind: 1, N: 7, At: 5}, {Kind: 8, B: 1, At: 3}, {Kind: 2, At: 1}, {Kind: 1, N: 7, At: 5}, {Kind: 8, A: 3, B: 4, At: 3}, {Kind: 9, A: 2, B: 5, At: 400}}
	if e != 0 || !slices.Equal(l, want) {
		t.Errorf("Node of two sums = %v, %d; want %v", l, e, want)
	}
	l, e = Node(api.NoNot, 0, 0, sum)
	if e != 0 || !slices.Equal(l, append(slices.Clone(sum), api.Node{Kind: 6, A: 2})) {
		t.Errorf("Node of one sum = %v, %d", l, e)
	}
	l, e = Node(api.NoNumber, math.MaxInt64, 400)
	if e != 0 || !slices.Equal(l, []api.Node{{Kind: 1, N: math.MaxInt64, At: 400}}) {
		t.Errorf("Node of no parts = %v, %d", l, e)
	}
}

// P4.3: what Node refuses for the kind, how many parts there are, N and At.
func TestNodeRefusesOtherArguments(t *testing.T) {
	v := values(1)
	expectNode(t, 2, 0, 0, 0)
	expectNode(t, 2, 20, 0, 0, v, v)
	expectNode(t, 2, 255, 0, 0, v)
	expectNode(t, 2, api.NoNumber, -1, 0)
	expectNode(t, 2, api.NoNumber, math.MinInt64, 0)
	expectNode(t, 2, api.NoNumber, 0, 0, v)
	expectNode(t, 2, api.NoValue, 0, 0, v)
	expectNode(t, 2, api.NoValue, 1, 0)
	expectNode(t, 2, api.NoKey, -1, 0)
	expectNode(t, 2, api.NoNeg, 0, 0)
	expectNode(t, 2, api.NoNeg, 1, 0, v)
	expectNode(t, 2, api.NoNot, 0, 0, v, v)
	expectNode(t, 2, api.NoMul, 0, 0)
	expectNode(t, 2, api.NoMul, 0, 0, v)
	expectNode(t, 2, api.NoMul, 7, 0, v, v)
	expectNode(t, 2, api.NoOr, 0, 0, v, v, v)
	expectNode(t, 2, api.NoOr, 0, -1, v, v)
	expectNode(t, 2, api.NoOr, 0, 401, v, v)
	expectNode(t, 2, api.NoTime, 0, 401)
	expectNode(t, 2, api.NoTime, 0, math.MinInt)
	expectNode(t, 2, api.NoMul, 0, 0, slices.Repeat([][]api.Node{v}, 1000)...)
}

// P4.3: MaxNodes nodes, and one more; the depth MaxDepth, and one more, by each part.
func TestNodeAtTheLimits(t *testing.T) {
	v := values(1)
	big, bigger, full := balanced(58).list(), balanced(59).list(), balanced(60).list()
	expectNode(t, 0, api.NoNeg, 0, 0, bigger)
	expectNode(t, 4, api.NoNeg, 0, 0, full)
	expectNode(t, 0, api.NoAdd, 0, 0, big, v)
	expectNode(t, 0, api.NoAdd, 0, 0, v, big)
	expectNode(t, 4, api.NoAdd, 0, 0, bigger, v)
	expectNode(t, 4, api.NoAdd, 0, 0, v, bigger)
	expectNode(t, 4, api.NoAdd, 0, 0, full, full)
	expectNode(t, 0, api.NoAdd, 0, 0, balanced(30).list(), balanced(29).list())
	expectNode(t, 4, api.NoAdd, 0, 0, balanced(30).list(), balanced(30).list())
	for _, x := range []*tree{chain(19), comb(19, 0), comb(19, 1)} {
		expectNode(t, 0, api.NoNot, 0, 0, x.list())
		expectNode(t, 0, api.NoLess, 0, 0, x.list(), v)
		expectNode(t, 0, api.NoLess, 0, 0, v, x.list())
		expectNode(t, 0, api.NoLess, 0, 0, chain(19).list(), x.list())
	}
	for _, x := range []*tree{chain(20), comb(20, 0), comb(20, 1)} {
		expectNode(t, 34, api.NoNot, 0, 0, x.list())
		expectNode(t, 34, api.NoLess, 0, 0, x.list(), v)
		expectNode(t, 34, api.NoLess, 0, 0, v, x.list())
	}
	expectNode(t, 34, api.NoLess, 0, 0, chain(20).list(), chain(20).list())
}

// P4.3, and R1: of two errors the one that is named first is returned.
func TestNodeReturnsTheFirstError(t *testing.T) {
	v, bad, many, deep := values(1), values(2), values(61), chain(21).list()
	for _, part := range [][]api.Node{bad, many, deep, nil} {
		expectNode(t, 2, api.NoNeg, 1, 0, part)
		expectNode(t, 2, api.NoNeg, 0, 401, part)
		expectNode(t, 2, api.NoNeg, 0, 0, part, part)
		expectNode(t, 2, api.NoAdd, 0, 0, part)
		expectNode(t, 2, 20, 0, 0, part, part)
		expectNode(t, 2, api.NoNumber, -1, 0, part)
		expectNode(t, 2, api.NoNumber, 0, 0, part)
		expectNode(t, 2, api.NoAdd, -1, 0, part, v)
	}
	expectNode(t, 8, api.NoNeg, 0, 0, nil)
	expectNode(t, 8, api.NoNeg, 0, 0, bad)
	expectNode(t, 4, api.NoNeg, 0, 0, many)
	expectNode(t, 34, api.NoNeg, 0, 0, deep)
	expectNode(t, 8, api.NoAdd, 0, 0, bad, many)
	expectNode(t, 4, api.NoAdd, 0, 0, many, bad)
	expectNode(t, 34, api.NoAdd, 0, 0, deep, bad)
	expectNode(t, 34, api.NoAdd, 0, 0, v, deep)
	expectNode(t, 8, api.NoAdd, 0, 0, v, nil)
	expectNode(t, 8, api.NoAdd, 0, 0, nil, v)
	expectNode(t, 8, api.NoAdd, 0, 0, balanced(60).list(), bad)               // ahead of too many nodes
	expectNode(t, 34, api.NoAdd, 0, 0, balanced(60).list(), deep)             // ahead of too many nodes
	expectNode(t, 8, api.NoAdd, 0, 0, chain(20).list(), bad)                  // ahead of too deep
	expectNode(t, 4, api.NoAdd, 0, 0, chain(20).list(), many)                 // ahead of too deep
	expectNode(t, 4, api.NoAdd, 0, 0, comb(20, 0).list(), comb(20, 0).list()) // too many nodes ahead of too deep
}

// P4.4: taken apart and made again, each node of each expression is what it was.
func TestExpressionsAreMadeOfParts(t *testing.T) {
	for _, x := range samples() {
		l := x.list()
		for at, node := range l {
			parts := [][]api.Node{}
			count, e := Parts(node.Kind)
			for _, i := range []int{node.A, node.B}[:count] {
				part, f := Part(l, i)
				parts, e = append(parts, part), max(e, f)
			}
			made, f := Node(node.Kind, node.N, node.At, parts...)
			if e != 0 || f != 0 {
				t.Fatalf("node %d of %v is not made: %d, %d", at, l, e, f)
			}
			expectPart(t, l, at, made, 0)
			if at == len(l)-1 && !slices.Equal(made, l) {
				t.Errorf("%v is made as %v", l, made)
			}
		}
	}
}

// P4.4: a node has one more than its parts together, and the depth is at most the size; the first node of all is a leaf.
func TestSizesAddUp(t *testing.T) {
	for _, x := range samples() {
		l := x.list()
		sizes := []int{}
		for at, node := range l {
			n, e := Size(l, at)
			count, f := Parts(node.Kind)
			want := 1
			for _, i := range []int{node.A, node.B}[:count] {
				want += sizes[i]
			}
			part, g := Part(l, at)
			d, h := Depth(part)
			if n != want || len(part) != n || d < 1 || d > n || e != 0 || f != 0 || g != 0 || h != 0 {
				t.Errorf("node %d of %v has the size %d, %d nodes and the depth %d; want the size %d", at, l, n, len(part), d, want)
			}
			sizes = append(sizes, n)
		}
		if sizes[len(l)-1] != len(l) {
			t.Errorf("%v has the size %d", l, sizes[len(l)-1])
		}
	}
}

// P4.4: one kind, index or unused number changed makes another expression, or none.
func TestEachChangeIsSeen(t *testing.T) {
	for i, x := range samples() {
		l := x.list()
		for at := i % 2; at < len(l); at += 1 + len(l)/6 {
			for _, c := range changes(l, at) {
				e := Check(c)
				same, f := Same(l, c)
				if e != f || same != (e == 0 && c[at].At != l[at].At) {
					t.Errorf("%v and %v: Check %d, Same %v, %d", l, c, e, same, f)
				}
			}
		}
	}
}

// guarded returns a list within a larger one, whose other nodes are set, and this larger one.
func guarded(l []api.Node) (inner, outer []api.Node) {
	other := api.Node{Kind: 77, N: 78, A: 79, B: 80, At: 81}
	outer = append([]api.Node{other, other}, l...)
	outer = append(outer, other, other, other)
	return outer[2 : 2+len(l)], outer
}

// spoil changes a result in all of its memory.
func spoil(l []api.Node) {
	l = l[:cap(l)]
	for i := range l {
		l[i] = api.Node{Kind: 99, N: 99, A: 99, B: 99, At: 99}
	}
}

// P1, R2: arguments are left as they were, with what is behind them, and share no memory with results.
func TestArgumentsAreLeftAsTheyWere(t *testing.T) {
	for _, x := range append(samples(), deepSamples()[:5]...) {
		l := x.list()
		inner, outer := guarded(l)
		before := slices.Clone(outer)
		Check(inner)
		Depth(inner)
		Same(inner, inner)
		for at := -1; at <= len(l); at++ {
			Size(inner, at)
			first, _ := Part(inner, at)
			second, _ := Part(inner, at)
			kept := slices.Clone(second)
			spoil(first)
			if !slices.Equal(second, kept) {
				t.Fatalf("two results of Part(%v, %d) share memory", l, at)
			}
			spoil(second)
		}
		for kind := range uint8(21) {
			for _, parts := range [][][]api.Node{nil, {inner}, {inner, inner}} {
				all := append(slices.Clone(parts), outer, nil)
				first, _ := Node(kind, 0, 0, all[:len(parts)]...)
				second, _ := Node(kind, 0, 0, all[:len(parts)]...)
				kept := slices.Clone(second)
				spoil(first)
				if !slices.Equal(second, kept) {
					t.Fatalf("two results of Node with the kind %d share memory", kind)
				}
				spoil(second)
				if len(all[len(parts)]) != len(outer) || all[len(parts)+1] != nil || len(parts) > 0 && len(all[0]) != len(inner) {
					t.Fatalf("Node with the kind %d changed its list of parts", kind)
				}
			}
		}
		if !slices.Equal(outer, before) {
			t.Fatalf("%v was changed to %v", before, outer)
		}
	}
}

// P1, R2: a call depends on its arguments alone: the same ones give the same result, whatever was called in between.
func TestCallsAreRepeated(t *testing.T) {
	lists := [][]api.Node{nil, example(), values(2), values(61), chain(20).list(), chain(21).list(), balanced(60).list()}
	for range 3 {
		for _, l := range lists {
			compareList(t, l)
			for _, other := range lists {
				compareNode(t, api.NoAdd, 0, 3, l, other)
			}
			compareNode(t, api.NoNeg, 0, 3, l)
			compareNode(t, api.NoNumber, 5, 3, l)
		}
	}
}
