package kinds

import (
	"fmt"
	"math"
	"slices"
	"testing"

	"tailwater/api"
	"tailwater/exprs"
	"tailwater/lexer"
	"tailwater/nodes"
)

// The tests have expressions as trees, and tell their kinds by words that list what stands in front of each one: the package has a table of bits.

// tree is an expression.
type tree struct {
	kind  uint8
	n     int64
	at    int
	parts []*tree
}

// one is a tree over others.
func one(kind uint8, parts ...*tree) *tree { return &tree{kind: kind, parts: parts} }

// number is a tree of a number.
func number(n int64) *tree { return &tree{kind: 1, n: n} }

// behind returns a list with the nodes of a tree behind it, in their order.
func (x *tree) behind(l []api.Node) []api.Node {
	node := api.Node{Kind: x.kind, N: x.n, At: x.at}
	for i, part := range x.parts {
		l = part.behind(l)
		if i == 0 {
			node.A = len(l) - 1
		} else {
			node.B = len(l) - 1
		}
	}
	return append(l, node)
}

// list returns the nodes of a tree.
func (x *tree) list() []api.Node { return x.behind(nil) }

// all returns a tree and those of its parts, in the order of their nodes.
func (x *tree) all() []*tree {
	l := []*tree{}
	for _, part := range x.parts {
		l = append(l, part.all()...)
	}
	return append(l, x)
}

// depth returns how deep a tree is.
func (x *tree) depth() int {
	d := 0
	for _, part := range x.parts {
		d = max(d, part.depth())
	}
	return d + 1
}

// taken returns the words that a kind takes: n is a number, t a truth value.
func taken(kind uint8) []string {
	switch kind {
	case 1, 2, 3, 4:
		return []string{""}
	case 5:
		return []string{"n"}
	case 6:
		return []string{"t"}
	case 7, 8, 9, 10, 11, 12, 13, 14, 15:
		return []string{"nn"}
	case 16, 17:
		return []string{"nn", "tt"}
	case 18, 19:
		return []string{"tt"}
	}
	return nil
}

// given returns the word that a kind gives.
func given(kind uint8) string {
	switch kind {
	case 1, 2, 3, 4, 5, 7, 8, 9, 10, 11:
		return "n"
	}
	return "t"
}

// fits reports whether the node of a tree fits.
func (x *tree) fits() bool {
	word := ""
	for _, part := range x.parts {
		word += given(part.kind)
	}
	return slices.Contains(taken(x.kind), word)
}

// misfits returns the index of the first node of a tree that does not fit, or -1.
func (x *tree) misfits() int {
	return slices.IndexFunc(x.all(), func(part *tree) bool { return !part.fits() })
}

// brief returns how a test tells a list: its first nodes, if it is a long one.
func brief(l []api.Node) string {
	s := fmt.Sprint(l)
	return s[:min(len(s), 300)]
}

// expectOf checks what Of returns.
func expectOf(t *testing.T, l []api.Node, truth bool, at int, code api.Errno) {
	t.Helper()
	if is, i, e := Of(l); is != truth || i != at || e != code {
		t.Errorf("Of(%v) = %v, %d, %d; want %v, %d, %d", brief(l), is, i, e, truth, at, code)
	}
}

// expectAll checks what All returns.
func expectAll(t *testing.T, l []api.Node, want []bool, code api.Errno) {
	t.Helper()
	if got, e := All(l); !slices.Equal(got, want) || e != code {
		t.Errorf("All(%v) = %v, %d; want %v, %d", brief(l), got, e, want, code)
	}
}

// expectNumber checks what Number returns.
func expectNumber(t *testing.T, l []api.Node, at int, code api.Errno) {
	t.Helper()
	if i, e := Number(l); i != at || e != code {
		t.Errorf("Number(%v) = %d, %d; want %d, %d", brief(l), i, e, at, code)
	}
}

// expectTruth checks what Truth returns.
func expectTruth(t *testing.T, l []api.Node, at int, code api.Errno) {
	t.Helper()
	if i, e := Truth(l); i != at || e != code {
		t.Errorf("Truth(%v) = %d, %d; want %d, %d", brief(l), i, e, at, code)
	}
}

// expectTyped checks what all functions return for a typed expression: each letter is what a node gives.
func expectTyped(t *testing.T, l []api.Node, word string) {
	t.Helper()
	truths := []bool{}
	for _, letter := range word {
		truths = append(truths, letter == 't')
	}
	last := len(word) - 1
	expectOf(t, l, word[last] == 't', last, 0)
	expectAll(t, l, truths, 0)
	if word[last] == 't' {
		expectTruth(t, l, last, 0)
		expectNumber(t, l, last, 42)
	} else {
		expectNumber(t, l, last, 0)
		expectTruth(t, l, last, 42)
	}
}

// expectMisfit checks what all functions return for an expression that is not typed.
func expectMisfit(t *testing.T, l []api.Node, at int) {
	t.Helper()
	expectOf(t, l, false, at, 42)
	expectAll(t, l, nil, 42)
	expectNumber(t, l, at, 42)
	expectTruth(t, l, at, 42)
}

// expectError checks that all functions return an error of nodes.Check, and nothing beside it.
func expectError(t *testing.T, l []api.Node, code api.Errno) {
	t.Helper()
	if e := nodes.Check(l); e != code {
		t.Errorf("Check(%v) = %d; want %d", brief(l), e, code)
	}
	expectOf(t, l, false, 0, code)
	expectAll(t, l, nil, code)
	expectNumber(t, l, 0, code)
	expectTruth(t, l, 0, code)
}

// expectTree checks what all functions return for the list of a tree with at most 60 nodes.
func expectTree(t *testing.T, x *tree) {
	t.Helper()
	l := x.list()
	if x.depth() > 20 {
		expectError(t, l, 34)
		return
	}
	if at := x.misfits(); at >= 0 {
		expectMisfit(t, l, at)
		return
	}
	word := ""
	for _, part := range x.all() {
		word += given(part.kind)
	}
	expectTyped(t, l, word)
}

// parsed returns the expression of a text.
func parsed(t *testing.T, s string) []api.Node {
	t.Helper()
	l, _, e := lexer.All(s)
	x, n, f := exprs.Parse(l, 0)
	if e != 0 || f != 0 || n != len(l) {
		t.Fatalf("%q is not parsed: %d, %d", s, e, f)
	}
	return x
}

// typed returns a small tree for each kind, over numbers as far as it takes them.
func typed() []*tree {
	l := []*tree{number(7), one(2), one(3), one(4), one(5, one(4)), one(6, one(12, one(4), number(1)))}
	for kind := uint8(7); kind <= 17; kind++ {
		l = append(l, one(kind, one(4), one(2)))
	}
	less := one(12, one(3), one(4))
	return append(l, one(18, less, less), one(19, less, less))
}

// untyped returns small trees with a node that does not fit, for each kind that has parts.
func untyped() []*tree {
	less := one(12, one(4), number(1))
	l := []*tree{one(5, less), one(6, one(4))}
	for kind := uint8(7); kind <= 17; kind++ {
		l = append(l, one(kind, less, one(2)), one(kind, one(2), less))
	}
	for kind := uint8(18); kind <= 19; kind++ {
		l = append(l, one(kind, less, one(2)), one(kind, one(2), less), one(kind, one(2), one(3)))
	}
	return l
}

// dice gives numbers by a fixed rule.
type dice uint32

func (d *dice) below(n int) int {
	*d = *d*1664525 + 1013904223
	return int(*d>>16) % n
}

// of returns one of some kinds.
func (d *dice) of(kinds ...uint8) uint8 { return kinds[d.below(len(kinds))] }

// leaf returns a tree of one node.
func (d *dice) leaf() *tree {
	x := &tree{kind: d.of(1, 2, 3, 4), at: d.below(401)}
	if x.kind == 1 {
		x.n = int64(d.below(3)) * (math.MaxInt64 / 2)
	}
	return x
}

// grown returns a typed tree of about some nodes: a truth value needs three at least.
func (d *dice) grown(size int, truth bool) *tree {
	x := &tree{at: d.below(401)}
	parts, within := 2, truth
	switch {
	case !truth && size < 2:
		return d.leaf()
	case !truth && (size == 2 || d.below(4) == 0):
		x.kind, parts = 5, 1
	case !truth:
		x.kind = d.of(7, 8, 9, 10, 11)
	case size > 3 && d.below(5) == 0:
		x.kind, parts = 6, 1
	case size < 7 || d.below(3) == 0:
		x.kind, within = d.of(12, 13, 14, 15, 16, 17), false
	default:
		x.kind = d.of(16, 17, 18, 19)
	}
	if parts == 1 {
		x.parts = []*tree{d.grown(size-1, within)}
		return x
	}
	least := 1
	if within {
		least = 3
	}
	first := least + d.below(max(1, size-2*least))
	x.parts = []*tree{d.grown(first, within), d.grown(size-1-first, within)}
	return x
}

// samples returns typed trees of many sizes that are valid.
func samples() []*tree {
	l := typed()
	d := dice(3)
	for i := range 600 {
		if x := d.grown(1+i%60, i%2 == 0); x.depth() <= 20 && len(x.all()) <= 60 {
			l = append(l, x)
		}
	}
	return l
}

// chain is v below some nodes with one part, a truth value from the comparison at its bottom on, or a number.
func chain(depth int, truth bool) *tree {
	x, kind := one(4), uint8(5)
	if truth {
		x, kind = one(12, one(4), one(2)), 6
	}
	for x.depth() < depth {
		x = one(kind, x)
	}
	return x
}

// comb is as deep as it says by the first parts (side 0) or the second ones, with typed parts on the other side.
func comb(depth, side int, truth bool) *tree {
	x, leaf, kinds := one(4), one(3), []uint8{7, 8, 9, 10, 11}
	if truth {
		x, leaf, kinds = one(13, one(4), one(2)), one(14, one(3), one(3)), []uint8{16, 17, 18, 19}
	}
	for i := 0; x.depth() < depth; i++ {
		kind := kinds[i/2%len(kinds)]
		switch {
		case truth && i%2 == 1: // so that there are not too many nodes
			x = one(6, x)
		case side == 0:
			x = one(kind, x, leaf)
		default:
			x = one(kind, leaf, x)
		}
	}
	return x
}

// flat is a typed tree of some nodes that is not deep: a sum of numbers (truth false), or as many behind a comparison.
func flat(size int, truth bool) *tree {
	if truth {
		first := size / 2
		return one(15, flat(first, false), flat(size-1-first, false))
	}
	if size == 1 {
		return one(2)
	}
	if size == 2 {
		return one(5, one(4))
	}
	first := (size - 1) / 2
	return one(8, flat(first, false), flat(size-1-first, false))
}

// P6.1 to P6.3: the chapter's examples.
func TestExamples(t *testing.T) {
	expectTyped(t, parsed(t, "v + 2 < k"), "nnnnt")
	expectTyped(t, parsed(t, "(v < 1) = (k < 2)"), "nntnntt")
	expectMisfit(t, parsed(t, "v + (k < 2)"), 4)
	expectMisfit(t, parsed(t, "not v"), 1)
	expectMisfit(t, parsed(t, "(v < 1) < 2"), 4)
}

// P6.1 to P6.3: expressions as they are written, with what each node gives.
func TestTypedTexts(t *testing.T) {
	for s, word := range map[string]string{
		"7": "n", "9223372036854775807": "n", "k": "n", "t": "n", "v": "n", "- v": "nn", "- - 5": "nnn", "v * k": "nnn", "v + k": "nnn", "v - k": "nnn", "v << k": "nnn", "v >> k": "nnn",
		"v < k": "nnt", "v <= k": "nnt", "v > k": "nnt", "v >= k": "nnt", "v = k": "nnt", "v != k": "nnt", "not v < 1": "nntt", "not not v = 1": "nnttt",
		"v < 1 and k < 2": "nntnntt", "v < 1 or k < 2": "nntnntt", "(v = 1) != (k = 2)": "nntnntt", "(v = 1) = (k != 2)": "nntnntt", "- v * 2 << k": "nnnnnn",
		"(not v < 1) = (k < 2 or t > 3)": "nnttnntnnttt", "- (v + 1) <= (k - 2) * t": "nnnnnnnnnt", "v - 1 = k and (not t = 2) = (v < k)": "nnnntnnttnnttt",
	} {
		expectTyped(t, parsed(t, s), word)
	}
}

// P6.1 and P6.3: expressions of which one node does not fit, at all places.
func TestTextsWithOneMisfit(t *testing.T) {
	for s, at := range map[string]int{
		"- (v < 1)": 3, "- (not v < 1)": 4, "not 5": 1, "not - v": 2, "not (v + 1)": 3, "(v < 1) * k": 4, "k * (v < 1)": 4, "(v < 1) + k": 4, "k - (v < 1)": 4,
		"(v < 1) << (k < 1)": 6, "k >> (v < 1)": 4, "(v = 1) <= 2": 4, "2 > (v = 1)": 4, "(v = 1) >= (k = 1)": 6, "(v = 1) < (k = 1)": 6, "(v = 1) = 2": 4, "2 = (v = 1)": 4, "(v = 1) != 2": 4, "2 != (v = 1)": 4,
		"v and k": 2, "v and k < 1": 4, "v < 1 and k": 4, "v or k": 2, "v or k < 1": 4, "v < 1 or k": 4,
		"(not v) = (k < 1)": 1, "(k < 1) = (not v)": 4, "1 + - (v < 2)": 4, "- (v < 2) + 1": 3, "(v and k) = (k < 2)": 2, "not not not v": 1, "v < 1 and k < 2 and t": 8, "v < 1 and k and t < 2": 4,
	} {
		expectMisfit(t, parsed(t, s), at)
	}
}

// P6.1 and P6.2: each kind over parts of each kind, on the left, on the right and on both sides.
func TestEachKindOverEachKind(t *testing.T) {
	parts := typed()
	for i, a := range parts {
		if int(a.kind) != i+1 || a.misfits() >= 0 {
			t.Fatalf("%v is no sample of the kind %d", a, i+1)
		}
		expectTree(t, a)
		expectTree(t, one(5, a))
		expectTree(t, one(6, a))
		for _, b := range parts {
			for kind := uint8(7); kind <= 19; kind++ {
				expectTree(t, one(kind, a, b))
			}
		}
	}
}

// P6.1: what the kinds take, by their names: a number and a truth value in all places.
func TestWhatKindsTakeAndGive(t *testing.T) {
	n, b := one(api.NoValue), one(api.NoLess, one(api.NoValue), one(api.NoKey))
	for _, x := range []struct {
		kinds          []uint8
		nn, nb, bn, bb string // what is given, or nothing
	}{
		{[]uint8{api.NoMul, api.NoAdd, api.NoSub, api.NoShl, api.NoShr}, "n", "", "", ""},
		{[]uint8{api.NoLess, api.NoAtMost, api.NoMore, api.NoLeast}, "t", "", "", ""},
		{[]uint8{api.NoEqual, api.NoOther}, "t", "", "", "t"},
		{[]uint8{api.NoAnd, api.NoOr}, "", "", "", "t"},
	} {
		for _, kind := range x.kinds {
			expectGiven(t, one(kind, n, n), x.nn)
			expectGiven(t, one(kind, n, b), x.nb)
			expectGiven(t, one(kind, b, n), x.bn)
			expectGiven(t, one(kind, b, b), x.bb)
		}
	}
	expectGiven(t, one(api.NoNeg, n), "n")
	expectGiven(t, one(api.NoNeg, b), "")
	expectGiven(t, one(api.NoNot, n), "")
	expectGiven(t, one(api.NoNot, b), "t")
	for _, kind := range []uint8{api.NoNumber, api.NoKey, api.NoTime, api.NoValue} {
		expectGiven(t, one(kind), "n")
	}
}

// expectGiven checks that the whole of a tree, whose parts fit, gives a number, a truth value, or does not fit.
func expectGiven(t *testing.T, x *tree, word string) {
	t.Helper()
	last := len(x.all()) - 1
	if word == "" {
		expectMisfit(t, x.list(), last)
		return
	}
	expectOf(t, x.list(), word == "t", last, 0)
	expectTree(t, x)
}

// P6.1: what is equal has to be of one sort, whatever the sides are made of.
func TestEqualTakesTwoOfOneSort(t *testing.T) {
	for kind := api.NoEqual; kind <= api.NoOther; kind++ {
		for _, a := range samples()[:80] {
			for _, b := range samples()[:80] {
				x := one(kind, a, b)
				l := x.list()
				if len(l) > 60 || x.depth() > 20 {
					continue
				}
				if given(a.kind) == given(b.kind) {
					expectOf(t, l, true, len(l)-1, 0)
				} else {
					expectOf(t, l, false, len(l)-1, 42)
				}
				expectTree(t, x)
			}
		}
	}
}

// P6.1 and P6.3: of several nodes that do not fit, the first one in their order, be it a part of the others or beside them.
func TestTheFirstMisfit(t *testing.T) {
	for s, at := range map[string]int{
		"(not v) + (not k)": 1, "- (not v)": 1, "not - (v < 1)": 3, "(v and k) and (t and v)": 2, "v + (not k)": 2, "(v < 1) + (not k)": 4, "(v < 1) + (not k < 1)": 7,
		"(v + (k < 1)) and (- (t < 1))": 4, "(v and 1) < (k or 2)": 2, "1 < (k or 2)": 3, "(- (v = 1)) * (- (k = 1))": 3, "v = 1 and (k = (t = 2))": 7, "(1 = (t = 2)) = (not v)": 4,
		"not not - (not v)": 1, "v and (k and (t and 7))": 4, "((v and k) and t) and 7": 2, "- - - (v >= 1)": 3, "(v >= 1) >= 2 and k": 4, "k and (v >= 1) >= 2": 5,
	} {
		expectMisfit(t, parsed(t, s), at)
	}
	for _, a := range untyped() {
		for _, b := range append(untyped(), typed()...) {
			for _, kind := range []uint8{7, 12, 16, 17, 18, 19} {
				first := a.misfits()
				expectMisfit(t, one(kind, a, b).list(), first)
				if b.misfits() < 0 {
					first += len(b.all())
				} else {
					first = b.misfits()
				}
				expectMisfit(t, one(kind, b, a).list(), first)
			}
		}
		expectMisfit(t, one(5, a).list(), a.misfits())
		expectMisfit(t, one(6, a).list(), a.misfits())
	}
}

// P6.3: a whole that is what is not asked for is met behind each node that does not fit.
func TestNumberAndTruth(t *testing.T) {
	for _, x := range []struct {
		s             string
		number, truth int
		code, other   api.Errno // of Number, of Truth
	}{
		{"v", 0, 0, 0, 42}, {"7", 0, 0, 0, 42}, {"- v + 2", 3, 3, 0, 42}, {"v < 1", 2, 2, 42, 0}, {"not v < 1", 3, 3, 42, 0}, {"v < 1 and k < 2", 6, 6, 42, 0},
		{"not v", 1, 1, 42, 42}, {"- (v < 1)", 3, 3, 42, 42}, {"(not v) and k < 1", 1, 1, 42, 42}, {"(not v) + 1", 1, 1, 42, 42}, {"(v and k) = (k < 1)", 2, 2, 42, 42}, {"(v < 1) = k", 4, 4, 42, 42},
	} {
		l := parsed(t, x.s)
		expectNumber(t, l, x.number, x.code)
		expectTruth(t, l, x.truth, x.other)
	}
}

// P6.1 to P6.3: all trees of up to five nodes with all kinds.
func TestAllSmallTrees(t *testing.T) {
	bySize := [][]*tree{nil, {number(3), one(2), one(3), one(4)}}
	count := 0
	for size := 2; size <= 5; size++ {
		l := []*tree{}
		for _, x := range bySize[size-1] {
			l = append(l, one(5, x), one(6, x))
		}
		for first := 1; first < size-1; first++ {
			for _, a := range bySize[first] {
				for _, b := range bySize[size-1-first] {
					for kind := uint8(7); kind <= 19; kind++ {
						l = append(l, one(kind, a, b))
					}
				}
			}
		}
		bySize = append(bySize, l)
	}
	for _, l := range bySize {
		for _, x := range l {
			expectTree(t, x)
			if x.misfits() < 0 {
				count++
			}
		}
	}
	if count < 5000 {
		t.Errorf("only %d trees are typed", count)
	}
}

// replaced returns a tree with the kind of one node, with as many parts, changed.
func replaced(x *tree, at int, kind uint8) *tree {
	c := *x
	if at == len(x.all())-1 {
		c.kind = kind
		return &c
	}
	c.parts = slices.Clone(x.parts)
	for i, part := range x.parts {
		if size := len(part.all()); at >= size {
			at -= size
			continue
		}
		c.parts[i] = replaced(part, at, kind)
		break
	}
	return &c
}

// P6.1 to P6.4: large typed trees, with the kind of one node or of two changed.
func TestLargeTrees(t *testing.T) {
	d := dice(5)
	sorts, sizes := [2]int{}, [61]int{}
	for _, x := range samples() {
		if x.misfits() >= 0 {
			t.Fatalf("%v is not typed", brief(x.list()))
		}
		if given(x.kind) == "t" {
			sorts[1]++
		} else {
			sorts[0]++
		}
		all := x.all()
		sizes[len(all)]++
		expectTree(t, x)
		for range 8 {
			y := x
			for range 1 + d.below(2) {
				at := d.below(len(all))
				switch len(all[at].parts) {
				case 1:
					y = replaced(y, at, d.of(5, 6))
				case 2:
					y = replaced(y, at, d.of(7, 9, 11, 12, 15, 16, 17, 18, 19))
				}
			}
			expectTree(t, y)
		}
	}
	if sorts[0] < 100 || sorts[1] < 100 || sizes[60] == 0 || sizes[59] == 0 {
		t.Errorf("there are %d numbers and %d truth values, of the sizes %v", sorts[0], sorts[1], sizes)
	}
}

// P6.1 to P6.3 (nodes.Check's error first): lists that are no expressions, of nodes that fit and of nodes that do not.
func TestErrorsOfCheckComeFirst(t *testing.T) {
	v, less := api.Node{Kind: 4}, one(12, one(4), one(2)).list()
	misfit := one(6, one(4)).list()
	for _, x := range []struct {
		l    []api.Node
		code api.Errno
	}{
		{nil, 8}, {[]api.Node{}, 8}, {[]api.Node{{}}, 8}, {[]api.Node{{Kind: 20}}, 8}, {[]api.Node{{Kind: 255}}, 8}, {[]api.Node{{Kind: 5}}, 8}, {[]api.Node{{Kind: 6}}, 8}, {[]api.Node{{Kind: 19}}, 8},
		{[]api.Node{v, v}, 8}, {[]api.Node{v, {Kind: 6, A: 1}}, 8}, {[]api.Node{v, {Kind: 6, A: -1}}, 8}, {[]api.Node{v, {Kind: 6, B: 1}}, 8}, {[]api.Node{v, {Kind: 6, N: 1}}, 8}, {[]api.Node{v, {Kind: 6, At: 401}}, 8}, {[]api.Node{v, {Kind: 6, At: -1}}, 8},
		{[]api.Node{v, v, {Kind: 18}}, 8}, {[]api.Node{v, v, {Kind: 18, A: 1, B: 0}}, 8}, {[]api.Node{v, v, {Kind: 18, A: 0, B: 2}}, 8}, {[]api.Node{v, v, {Kind: 18, A: math.MinInt, B: math.MaxInt}}, 8}, {[]api.Node{v, v, {Kind: 20, B: 1}}, 8},
		{[]api.Node{{Kind: 1, N: -1}, {Kind: 6}}, 8}, {[]api.Node{{Kind: 4, N: 1}, {Kind: 6}}, 8}, {[]api.Node{{Kind: 4, A: 1}, {Kind: 6}}, 8}, {[]api.Node{{Kind: 0}, {Kind: 6}}, 8},
		{append(slices.Clone(misfit), v), 8}, {append(slices.Clone(misfit), misfit...), 8}, {append([]api.Node{v}, misfit...), 8}, {append(slices.Clone(less), less...), 8},
		{append(slices.Clone(misfit), api.Node{}), 8}, {append(slices.Clone(misfit), api.Node{Kind: 5, A: 1, At: 401}), 8}, {append(slices.Clone(misfit), api.Node{Kind: 7, A: 0, B: 1}), 8},
		{slices.Repeat([]api.Node{v}, 60), 8}, {slices.Repeat([]api.Node{v}, 61), 4}, {slices.Repeat(misfit, 31), 4}, {make([]api.Node, 60), 8}, {make([]api.Node, 61), 4}, {make([]api.Node, 5000), 4},
	} {
		expectError(t, x.l, x.code)
	}
	for _, x := range []*tree{chain(20, true), one(6, chain(19, false)), one(5, chain(19, true)), comb(20, 0, false), comb(20, 1, true), one(18, one(4), chain(19, false))} {
		expectTree(t, x)
		expectError(t, one(5, x).list(), 34)
		expectError(t, one(6, x).list(), 34)
		expectError(t, one(18, x, one(6, one(4))).list(), 34)
		l := one(6, x).list()
		l[1].At = -1
		expectError(t, l, 8)
	}
}

// P6.1 to P6.3: one thing of one node changed to what makes the list no expression, or another one.
func TestChangedNodes(t *testing.T) {
	for _, x := range samples()[:60] {
		l := x.list()
		for at, old := range l {
			for kind := range 22 {
				l[at].Kind = uint8(kind)
				expectSame(t, l)
			}
			l[at] = old
			for _, i := range []int{math.MinInt, -1, 0, 1, len(l), math.MaxInt} {
				l[at].A = i
				expectSame(t, l)
				l[at] = old
				l[at].B = i
				expectSame(t, l)
				l[at] = old
			}
			l[at].N--
			expectSame(t, l)
			l[at] = old
		}
	}
}

// expectSame checks that the functions return Check's error for a list, or else agree with a tree that is read from its kinds.
func expectSame(t *testing.T, l []api.Node) {
	t.Helper()
	if e := nodes.Check(l); e != 0 {
		expectError(t, l, e)
		return
	}
	done := []*tree{}
	for _, node := range l {
		count := len(taken(node.Kind)[0])
		from := len(done) - count
		x := &tree{kind: node.Kind, n: node.N, at: node.At, parts: slices.Clone(done[from:])}
		done = append(done[:from], x)
	}
	expectTree(t, done[0])
}

// P6.1 to P6.3: MaxNodes nodes and one more, the depth MaxDepth and one more.
func TestLimits(t *testing.T) {
	for _, truth := range []bool{false, true} {
		for size := 58; size <= 63; size++ {
			x := flat(size, truth)
			l := x.list()
			if len(l) != size || x.misfits() >= 0 || x.depth() > 20 {
				t.Fatalf("%v is no sample of the size %d", brief(l), size)
			}
			if size > 60 {
				expectError(t, l, 4)
				continue
			}
			expectTree(t, x)
			expectOf(t, l, truth, size-1, 0)
			expectTree(t, replaced(x, size-1, 18))
		}
		for depth := 17; depth <= 23; depth++ {
			for _, x := range []*tree{chain(depth, truth), comb(depth, 0, truth), comb(depth, 1, truth)} {
				l := x.list()
				if x.depth() != depth || x.misfits() >= 0 {
					t.Fatalf("%v is no sample of the depth %d", brief(l), depth)
				}
				if depth > 20 {
					expectError(t, l, 34)
					continue
				}
				expectTree(t, x)
				expectOf(t, l, truth, len(l)-1, 0)
			}
		}
	}
	// What does not fit stands deepest, or is the last of many nodes.
	x := one(6, one(4))
	for x.depth() < 20 {
		x = one(6, x)
	}
	expectMisfit(t, x.list(), 1)
	expectError(t, one(6, x).list(), 34)
	expectMisfit(t, one(6, flat(59, false)).list(), 59)
	expectError(t, one(6, flat(60, false)).list(), 4)
}

// P6.4: each part of a typed expression is typed, and is what All reports for its node.
func TestPartsOfTypedExpressions(t *testing.T) {
	for _, x := range samples() {
		l := x.list()
		truths, e := All(l)
		if e != 0 || len(truths) != len(l) {
			t.Fatalf("All(%v) = %v, %d", brief(l), truths, e)
		}
		for at, truth := range truths {
			part, e := nodes.Part(l, at)
			if e != 0 {
				t.Fatalf("Part(%v, %d) has the error %d", brief(l), at, e)
			}
			expectOf(t, part, truth, len(part)-1, 0)
			expectAll(t, part, truths[at+1-len(part):at+1], 0)
		}
	}
}

// P6.4: an expression of typed parts is typed just if its whole fits, and is then what its kind gives, whatever its parts are.
func TestExpressionsOfTypedParts(t *testing.T) {
	parts := samples()
	d := dice(9)
	for kind := uint8(5); kind <= 19; kind++ {
		for range 400 {
			x := one(kind, parts[d.below(len(parts))])
			if kind > 6 {
				x = one(kind, x.parts[0], parts[d.below(len(parts))])
			}
			lists := [][]api.Node{}
			for _, part := range x.parts {
				lists = append(lists, part.list())
			}
			l, e := nodes.Node(kind, 0, 0, lists...)
			if e != 0 {
				continue
			}
			last := len(l) - 1
			if x.fits() {
				expectOf(t, l, given(kind) == "t", last, 0)
			} else {
				expectOf(t, l, false, last, 42)
			}
			expectTree(t, x)
		}
	}
}

// P6.4: an expression is a number or a truth value, never both, and is neither just if it is not typed.
func TestOneKindForEach(t *testing.T) {
	for _, x := range append(samples(), untyped()...) {
		l := x.list()
		_, e := Number(l)
		_, f := Truth(l)
		is, at, g := Of(l)
		_, h := All(l)
		if e == 0 && f == 0 || (e == 0 || f == 0) != (g == 0) || g != h || is != (f == 0) || g == 0 && at != len(l)-1 {
			t.Errorf("%v: Number %d, Truth %d, Of %v, %d, %d, All %d", brief(l), e, f, is, at, g, h)
		}
	}
}

// P6.4: where nodes stand does not matter, nor which numbers there are.
func TestPlacesDoNotMatter(t *testing.T) {
	d := dice(13)
	for _, x := range append(samples(), untyped()...) {
		l := x.list()
		is, at, e := Of(l)
		truths, f := All(l)
		i, g := Number(l)
		j, h := Truth(l)
		for _, place := range []int{0, 1, 200, 399, 400, -1} {
			other := slices.Clone(l)
			for k := range other {
				other[k].At = place
				if place < 0 {
					other[k].At = d.below(401)
				}
				if other[k].Kind == 1 {
					other[k].N = int64(d.below(1 << 15))
				}
			}
			expectOf(t, other, is, at, e)
			expectAll(t, other, truths, f)
			expectNumber(t, other, i, g)
			expectTruth(t, other, j, h)
		}
	}
}

// P1 (R2): arguments are left as they were, also in front of and behind what is passed.
func TestArgumentsAreLeftAsTheyWere(t *testing.T) {
	other := api.Node{Kind: 77, N: 78, A: 79, B: 80, At: 81}
	lists := [][]api.Node{nil, {other}, slices.Repeat([]api.Node{other}, 61), chain(21, false).list()}
	for _, x := range append(samples()[:100], untyped()...) {
		lists = append(lists, x.list())
	}
	for _, l := range lists {
		outer := slices.Concat([]api.Node{other, other}, l, []api.Node{other, other, other})
		before := slices.Clone(outer)
		inner := outer[2 : 2+len(l)]
		Of(inner)
		All(inner)
		Number(inner)
		Truth(inner)
		if !slices.Equal(outer, before) {
			t.Errorf("%v was changed to %v", brief(before), brief(outer))
		}
	}
}

// P1 (R2): each call gives new memory, and a call depends on its arguments alone.
func TestResultsShareNoMemory(t *testing.T) {
	for _, x := range samples() {
		l := x.list()
		first, e := All(l)
		want := slices.Clone(first)
		expectMisfit(t, one(6, one(4)).list(), 1)
		expectError(t, nil, 8)
		second, f := All(l)
		whole := first[:cap(first)]
		for i := range whole {
			whole[i] = !whole[i]
		}
		third, g := All(l)
		if e != 0 || f != 0 || g != 0 || !slices.Equal(second, want) || !slices.Equal(third, want) {
			t.Fatalf("All(%v) = %v, then %v; want %v", brief(l), second, third, want)
		}
		// Nodes that change behind a call do not change its result.
		clear(l)
		if !slices.Equal(second, want) {
			t.Fatalf("behind the call it is %v; want %v", second, want)
		}
	}
}
