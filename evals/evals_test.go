package evals

import (
	"fmt"
	"math"
	"math/big"
	"slices"
	"testing"

	"tailwater/api"
	"tailwater/exprs"
	"tailwater/ints"
	"tailwater/lexer"
	"tailwater/nodes"
)

// The tests have expressions as trees, and tell their values by whole numbers of any size, from the parts up: the package has lists of nodes, and asks layer 1.

// tree is an expression.
type tree struct {
	kind  uint8
	n     int64
	at    int
	parts []*tree
}

// one is a tree over others.
func one(kind uint8, parts ...*tree) *tree { return &tree{kind: kind, parts: parts} }

// number is a tree of a number.
func number(n int64) *tree { return &tree{kind: 1, n: n} }

// behind returns a list with the nodes of a tree behind it, in their order.
func (x *tree) behind(l []api.Node) []api.Node {
	ends := [2]int{}
	for i, part := range x.parts {
		l = part.behind(l)
		ends[i] = len(l) - 1
	}
	return append(l, api.Node{Kind: x.kind, N: x.n, A: ends[0], B: ends[1], At: x.at})
}

// list returns the nodes of a tree.
func (x *tree) list() []api.Node { return x.behind(nil) }

// all returns a tree and those of its parts, in the order of their nodes.
func (x *tree) all() []*tree {
	l := []*tree{}
	for _, part := range x.parts {
		l = append(l, part.all()...)
	}
	return append(l, x)
}

// depth returns how deep a tree is.
func (x *tree) depth() int {
	d := 0
	for _, part := range x.parts {
		d = max(d, part.depth())
	}
	return d + 1
}

// isTruth reports whether a tree is a truth value, if it is typed.
func (x *tree) isTruth() bool { return x.kind == 6 || x.kind >= 12 }

// isTyped reports whether all nodes of a tree fit.
func (x *tree) isTyped() bool {
	for _, part := range x.parts {
		if !part.isTyped() {
			return false
		}
	}
	takes := x.kind == 6 || x.kind >= 18
	if x.kind == 16 || x.kind == 17 {
		takes = x.parts[0].isTruth()
	}
	return !slices.ContainsFunc(x.parts, func(part *tree) bool { return part.isTruth() != takes })
}

// uses returns the letters of the fields that a tree uses.
func (x *tree) uses() string {
	s := ""
	for i, letter := range "ktv" {
		if slices.ContainsFunc(x.all(), func(part *tree) bool { return int(part.kind) == 2+i }) {
			s += string(letter)
		}
	}
	return s
}

// values returns the values of all nodes of a tree for a record, in order.
func (x *tree) values(r api.Record) []int64 {
	l, last := []int64{}, [2]int64{}
	for i, part := range x.parts {
		l = append(l, part.values(r)...)
		last[i] = l[len(l)-1]
	}
	own := int64(0)
	switch x.kind {
	case 1:
		own = x.n
	case 2:
		own = r.Key
	case 3:
		own = r.Time
	case 4:
		own = r.Value
	default:
		own = gives(x.kind, last[0], last[1])
	}
	return append(l, own)
}

// value returns the value of a tree for a record.
func (x *tree) value(r api.Record) int64 {
	l := x.values(r)
	return l[len(l)-1]
}

// wrapped returns the number that differs from a whole number by a multiple of 2^64.
func wrapped(x *big.Int) int64 {
	half := new(big.Int).Lsh(big.NewInt(1), 63)
	turn := new(big.Int).Lsh(big.NewInt(1), 64)
	x = new(big.Int).Add(x, half)
	x.Mod(x, turn)
	return x.Sub(x, half).Int64()
}

// power returns 2 to the power of b modulo 64.
func power(b int64) *big.Int {
	return new(big.Int).Lsh(big.NewInt(1), uint(((b%64)+64)%64))
}

// gives returns what an operator gives, by whole numbers of any size.
func gives(kind uint8, a, b int64) int64 {
	x, y, z := big.NewInt(a), big.NewInt(b), new(big.Int)
	c, holds := x.Cmp(y), false
	switch kind {
	case api.NoNeg:
		return wrapped(z.Neg(x))
	case api.NoMul:
		return wrapped(z.Mul(x, y))
	case api.NoAdd:
		return wrapped(z.Add(x, y))
	case api.NoSub:
		return wrapped(z.Sub(x, y))
	case api.NoShl:
		return wrapped(z.Mul(x, power(b)))
	case api.NoShr:
		return wrapped(z.Div(x, power(b))) // rounds down, as the divisor is positive
	case api.NoNot:
		holds = a == 0
	case api.NoLess:
		holds = c < 0
	case api.NoAtMost:
		holds = c <= 0
	case api.NoMore:
		holds = c > 0
	case api.NoLeast:
		holds = c >= 0
	case api.NoEqual:
		holds = c == 0
	case api.NoOther:
		holds = c != 0
	case api.NoAnd:
		holds = a != 0 && b != 0
	case api.NoOr:
		holds = a != 0 || b != 0
	default:
		panic("no operator")
	}
	if holds {
		return 1
	}
	return 0
}

// ends are numbers at and near the ends of int64, around 0, and those at which shifts and products turn.
func ends() []int64 {
	l := []int64{math.MinInt64, math.MinInt64 + 1, math.MinInt64 + 2, math.MaxInt64 - 2, math.MaxInt64 - 1, math.MaxInt64, 6148914691236517205, -3037000500, 3037000500, 1 << 62, -1 << 62, 1 << 32, -1 << 31}
	for n := int64(-3); n <= 3; n++ {
		l = append(l, n)
	}
	for _, n := range []int64{31, 32, 62, 63, 64, 65, 127, 128} {
		l = append(l, n, -n)
	}
	return l
}

// records are some whose fields differ, with numbers from all over int64.
func records() []api.Record {
	return []api.Record{
		{Key: 3, Time: 10, Value: -4}, {}, {Key: math.MinInt64, Time: math.MaxInt64, Value: -1}, {Key: 1, Time: math.MinInt64, Value: math.MaxInt64},
		{Key: -1, Time: 64, Value: math.MinInt64}, {Key: 63, Time: 2, Value: 1234567890123456789}, {Key: -65, Time: -65, Value: -65}, {Key: 1, Time: 0, Value: 1},
	}
}

// brief returns how a test tells a list: its first nodes, if it is a long one.
func brief(l []api.Node) string {
	s := fmt.Sprint(l)
	return s[:min(len(s), 300)]
}

// expectOf checks what Of returns.
func expectOf(t *testing.T, l []api.Node, r api.Record, want int64, code api.Errno) {
	t.Helper()
	if n, e := Of(l, r); n != want || e != code {
		t.Errorf("Of(%v, %v) = %d, %d; want %d, %d", brief(l), r, n, e, want, code)
	}
}

// expectAll checks what All returns.
func expectAll(t *testing.T, l []api.Node, r api.Record, want []int64, code api.Errno) {
	t.Helper()
	if got, e := All(l, r); !slices.Equal(got, want) || e != code {
		t.Errorf("All(%v, %v) = %v, %d; want %v, %d", brief(l), r, got, e, want, code)
	}
}

// expectUses checks what Uses returns: letters, or an error.
func expectUses(t *testing.T, l []api.Node, letters string, code api.Errno) {
	t.Helper()
	key, time, value, e := Uses(l)
	got := ""
	if key {
		got += "k"
	}
	if time {
		got += "t"
	}
	if value {
		got += "v"
	}
	if got != letters || e != code {
		t.Errorf("Uses(%v) = %q, %d; want %q, %d", brief(l), got, e, letters, code)
	}
}

// expectError checks that all functions return an error, and nothing beside it.
func expectError(t *testing.T, l []api.Node, code api.Errno) {
	t.Helper()
	if e := nodes.Check(l); code != 42 && e != code || code == 42 && e != 0 {
		t.Errorf("Check(%v) = %d; want %d or, for 42, none", brief(l), e, code)
	}
	for _, r := range records()[:3] {
		expectOf(t, l, r, 0, code)
		expectAll(t, l, r, nil, code)
	}
	expectUses(t, l, "", code)
}

// expectTree checks what all functions return for the list of a tree, and some records.
func expectTree(t *testing.T, x *tree, some ...api.Record) {
	t.Helper()
	l := x.list()
	switch {
	case len(l) > 60:
		expectError(t, l, 4)
		return
	case x.depth() > 20:
		expectError(t, l, 34)
		return
	case !x.isTyped():
		expectError(t, l, 42)
		return
	}
	for _, r := range some {
		want := x.values(r)
		expectAll(t, l, r, want, 0)
		expectOf(t, l, r, want[len(want)-1], 0)
	}
	expectUses(t, l, x.uses(), 0)
}

// parsed returns the expression of a text.
func parsed(t *testing.T, s string) []api.Node {
	t.Helper()
	l, _, e := lexer.All(s)
	x, n, f := exprs.Parse(l, 0)
	if e != 0 || f != 0 || n != len(l) {
		t.Fatalf("%q is not parsed: %d, %d", s, e, f)
	}
	return x
}

// dice gives numbers by a fixed rule.
type dice uint32

func (d *dice) below(n int) int {
	*d = *d*1664525 + 1013904223
	return int(*d>>16) % n
}

// of returns one of some kinds.
func (d *dice) of(kinds ...uint8) uint8 { return kinds[d.below(len(kinds))] }

// leaf returns a tree of one node.
func (d *dice) leaf() *tree {
	x := &tree{kind: d.of(1, 2, 3, 4), at: d.below(401)}
	if x.kind == 1 {
		x.n = []int64{0, 1, 2, 63, 64, 1000, 1 << 62, math.MaxInt64}[d.below(8)]
	}
	return x
}

// grown returns a typed tree of at most some nodes: a truth value has three at least.
func (d *dice) grown(size int, truth bool) *tree {
	x, within := &tree{at: d.below(401)}, truth
	switch {
	case !truth && size < 3:
		return d.leaf()
	case !truth && d.below(5) > 0:
		x.kind = d.of(7, 8, 9, 10, 11)
	case !truth:
		x.kind = 5
	case size < 7:
		x.kind, within = d.of(12, 13, 14, 15, 16, 17), false
	case d.below(5) > 0:
		x.kind = d.of(16, 17, 18, 19)
	default:
		x.kind = 6
	}
	if x.kind < 7 {
		x.parts = []*tree{d.grown(size-1, within)}
		return x
	}
	least := 1
	if within {
		least = 3
	}
	first := least + d.below(size-2*least)
	x.parts = []*tree{d.grown(first, within), d.grown(size-1-first, within)}
	return x
}

// samples returns typed trees of many sizes that are valid, each kind among their wholes.
func samples() []*tree {
	l := []*tree{number(math.MaxInt64), one(2), one(3), one(4), one(5, one(4)), one(6, one(12, one(4), number(1)))}
	less := one(12, one(3), one(4))
	for kind := uint8(7); kind <= 17; kind++ {
		l = append(l, one(kind, one(4), one(2)))
	}
	l = append(l, one(18, less, less), one(19, less, less))
	d := dice(7)
	for i := range 500 {
		if x := d.grown(1+i%58+2*(i%2), i%2 == 1); x.depth() <= 20 {
			l = append(l, x)
		}
	}
	return l
}

// untyped returns small trees with a node that does not fit, for each kind that has parts.
func untyped() []*tree {
	less := one(12, one(4), number(1))
	l := []*tree{one(5, less), one(6, one(4))}
	for kind := uint8(7); kind <= 19; kind++ {
		l = append(l, one(kind, less, one(2)), one(kind, one(2), less))
	}
	for kind := uint8(7); kind <= 15; kind++ {
		l = append(l, one(kind, less, less))
	}
	return append(l, one(18, one(2), one(3)), one(19, one(2), one(3)))
}

// truthOf returns a small tree that is a truth value, the same for all records, made by one of four kinds in turn.
func truthOf(holds bool, way int) *tree {
	ofEquals, ofNumbers := [3]uint8{17, 12, 14}, uint8(15)
	if holds {
		ofEquals, ofNumbers = [3]uint8{16, 13, 15}, 12
	}
	if way%4 == 3 {
		return one(ofNumbers, number(0), number(math.MaxInt64))
	}
	return one(ofEquals[way%4], one(2), one(2))
}

// P7.1: the chapter's examples, for its record.
func TestExamples(t *testing.T) {
	r := api.Record{Key: 3, Time: 10, Value: -4}
	for _, x := range []struct {
		s      string
		values []int64
		uses   string
	}{
		{"v + 2 * k", []int64{-4, 2, 3, 6, 2}, "kv"}, {"t >> 1", []int64{10, 1, 5}, "t"}, {"not (v < 0)", []int64{-4, 0, 1, 0}, "v"}, {"v < k", []int64{-4, 3, 1}, "kv"},
	} {
		l := parsed(t, x.s)
		expectOf(t, l, r, x.values[len(x.values)-1], 0)
		expectAll(t, l, r, x.values, 0)
		expectUses(t, l, x.uses, 0)
	}
}

// P7.1: values by hand, over the ends of int64 and near them: v and k are the operands.
func TestValuesByHand(t *testing.T) {
	const least, most = math.MinInt64, math.MaxInt64
	for _, x := range []struct {
		s          string
		v, k, want int64
	}{
		{"- v", least, 0, least}, {"- v", most, 0, least + 1}, {"- v", least + 1, 0, most}, {"- v", 0, 7, 0}, {"- - v", least, 0, least}, {"- 9223372036854775807", 0, 0, least + 1}, {"- 9223372036854775807 - 1", 0, 0, least},
		{"v * k", most, 2, -2}, {"v * k", least, -1, least}, {"v * k", least, 2, 0}, {"v * k", most, most, 1}, {"v * k", -4, 5, -20}, {"v * k", 3037000500, 3037000500, -9223372036709301616}, {"v * k", 0, least, 0},
		{"v + k", most, 1, least}, {"v + k", least, -1, most}, {"v + k", least, least, 0}, {"v + k", most, least, -1}, {"v + k", 2, 3, 5}, {"v + 9223372036854775807", most, 0, -2},
		{"v - k", least, 1, most}, {"v - k", most, -1, least}, {"v - k", 0, least, least}, {"v - k", -1, least, most}, {"v - k", 2, 3, -1}, {"v - k", 3, 2, 1},
		{"v << k", 1, 65, 2}, {"v << k", 1, 63, least}, {"v << k", 1, 64, 1}, {"v << k", 3, 63, least}, {"v << k", 2, 63, 0}, {"v << k", 5, 0, 5}, {"v << k", 1, -1, least}, {"v << k", 1, -63, 2}, {"v << k", 5, -64, 5}, {"v << k", -5, 1, -10}, {"v << k", 5, least, 5}, {"v << k", 5, most, least}, {"1 << 65", 0, 0, 2},
		{"v >> k", -5, 1, -3}, {"v >> k", -5, -1, -1}, {"v >> k", 5, -1, 0}, {"v >> k", 5, 0, 5}, {"v >> k", -5, 64, -5}, {"v >> k", -5, 65, -3}, {"v >> k", least, 63, -1}, {"v >> k", most, 62, 1}, {"v >> k", most, 63, 0}, {"v >> k", -5, least, -5}, {"v >> k", -5, most, -1}, {"- 5 >> 1", 0, 0, -3},
		{"v < k", least, most, 1}, {"v < k", most, least, 0}, {"v < k", 2, 2, 0}, {"v < k", least, least, 0}, {"v <= k", least, most, 1}, {"v <= k", most, least, 0}, {"v <= k", 2, 2, 1}, {"v <= k", most, most, 1},
		{"v > k", most, least, 1}, {"v > k", least, most, 0}, {"v > k", 2, 2, 0}, {"v > k", most, most, 0}, {"v >= k", most, least, 1}, {"v >= k", least, most, 0}, {"v >= k", 2, 2, 1}, {"v >= k", least, least, 1},
		{"v = k", least, least, 1}, {"v = k", least, most, 0}, {"v = k", 0, 0, 1}, {"v = k", 1, -1, 0}, {"v != k", least, least, 0}, {"v != k", least, most, 1}, {"v != k", 0, 0, 0}, {"v != k", 1, -1, 1},
		{"not v = k", 1, 1, 0}, {"not v = k", 1, 2, 1}, {"not not v = k", 1, 1, 1}, {"v < 0 and k < 0", -1, -1, 1}, {"v < 0 and k < 0", -1, 0, 0}, {"v < 0 and k < 0", 0, -1, 0}, {"v < 0 and k < 0", 0, 0, 0},
		{"v < 0 or k < 0", -1, -1, 1}, {"v < 0 or k < 0", -1, 0, 1}, {"v < 0 or k < 0", 0, -1, 1}, {"v < 0 or k < 0", 0, 0, 0}, {"(v < 0) = (k < 0)", 0, 0, 1}, {"(v < 0) = (k < 0)", -1, 0, 0}, {"(v < 0) != (k < 0)", 0, 0, 0}, {"(v < 0) != (k < 0)", 0, -1, 1},
		{"v - k - 1", 10, 3, 6}, {"v - (k - 1)", 10, 3, 8}, {"v + 2 * k", 1, 5, 11}, {"(v + 2) * k", 1, 5, 15}, {"v << 1 + k", 1, 2, 8}, {"- v * k", 3, 4, -12}, {"v - - k", 3, 4, 7}, {"v = 1 or k = 1 and v = 2", 1, 9, 1}, {"(v = 1 or k = 1) and v = 2", 1, 9, 0}, {"not v = 1 and k < 2", 1, 1, 0},
	} {
		expectOf(t, parsed(t, x.s), api.Record{Key: x.k, Time: 77, Value: x.v}, x.want, 0)
	}
}

// P7.1: each kind of a leaf, by itself and as a part on each side.
func TestLeaves(t *testing.T) {
	n := []int64{math.MinInt64, -9, 0, 9, math.MaxInt64}
	for i, key := range n {
		for j, time := range n {
			r := api.Record{Key: key, Time: time, Value: n[(i+2*j)%len(n)]}
			for kind, want := range map[uint8]int64{api.NoKey: key, api.NoTime: time, api.NoValue: r.Value} {
				expectOf(t, []api.Node{{Kind: kind}}, r, want, 0)
				expectAll(t, []api.Node{{Kind: kind, At: 400}}, r, []int64{want}, 0)
				expectAll(t, []api.Node{{Kind: kind}, {Kind: api.NoNumber, N: 7}, {Kind: api.NoAdd, A: 0, B: 1}}, r, []int64{want, 7, want + 7}, 0)
				expectAll(t, []api.Node{{Kind: api.NoNumber, N: 7}, {Kind: kind}, {Kind: api.NoSub, A: 0, B: 1}}, r, []int64{7, want, 7 - want}, 0)
			}
			for _, own := range []int64{0, 1, 9, 400, math.MaxInt64 - 1, math.MaxInt64} {
				expectOf(t, []api.Node{{Kind: api.NoNumber, N: own, At: 3}}, r, own, 0)
				expectAll(t, []api.Node{{Kind: api.NoNumber, N: own}}, r, []int64{own}, 0)
			}
		}
	}
}

// P7.1: each operator's kind that takes numbers, over numbers at and near the ends, from the fields of a record and as numbers.
func TestOperatorsOverTheEnds(t *testing.T) {
	for _, a := range ends() {
		r := api.Record{Key: 5, Time: a, Value: -6}
		expectTree(t, one(5, one(3)), r)
		expectTree(t, one(5, one(5, one(3))), r)
		for _, b := range ends() {
			for kind := uint8(7); kind <= 17; kind++ {
				expectTree(t, one(kind, one(4), one(2)), api.Record{Key: b, Time: 11, Value: a})
				expectTree(t, one(kind, one(2), one(3)), api.Record{Key: a, Time: b, Value: 12})
				if a >= 0 && b >= 0 {
					expectTree(t, one(kind, number(a), number(b)), r)
				}
			}
		}
	}
}

// P7.1: shifts by 0, 63, 64, negative numbers, and all others from -200 to 200.
func TestShifts(t *testing.T) {
	for b := int64(-200); b <= 200; b++ {
		for _, a := range []int64{math.MinInt64, -5, -1, 0, 1, 3, 1 << 40, math.MaxInt64} {
			r := api.Record{Key: a, Time: b, Value: 1}
			for kind := api.NoShl; kind <= api.NoShr; kind++ {
				expectTree(t, one(kind, one(2), one(3)), r)
				if b >= 0 {
					expectTree(t, one(kind, one(2), number(b)), r)
				} else {
					expectTree(t, one(kind, one(2), one(5, number(-b))), r)
				}
			}
		}
	}
}

// P7.1: truth values, made in some ways, as parts of each kind that takes them.
func TestTruthValuesAsParts(t *testing.T) {
	want := map[uint8][4]int64{ // for neither, the second, the first, both
		api.NoAnd: {0, 0, 0, 1}, api.NoOr: {0, 1, 1, 1}, api.NoEqual: {1, 0, 0, 1}, api.NoOther: {0, 1, 1, 0},
	}
	for way := range 4 {
		for i := range 4 {
			a, b := truthOf(i >= 2, way), truthOf(i%2 == 1, way+i)
			for _, r := range records() {
				for kind, l := range want {
					x := one(kind, a, b)
					expectTree(t, x, r)
					expectOf(t, x.list(), r, l[i], 0)
					expectOf(t, one(api.NoNot, x).list(), r, 1-l[i], 0)
					// Truth values of truth values.
					expectOf(t, one(kind, x, one(api.NoNot, one(api.NoNot, x))).list(), r, l[3*l[i]], 0)
					expectOf(t, one(kind, x, one(api.NoNot, x)).list(), r, l[1+l[i]], 0)
				}
				expectOf(t, one(api.NoNot, a).list(), r, int64(1-i/2), 0)
				expectOf(t, one(api.NoNot, one(api.NoNot, a)).list(), r, int64(i/2), 0)
			}
		}
	}
}

// P7.1: what All tells of each node, in order, also of those that the whole does not depend on, and Of of the last.
func TestAllTellsEachNode(t *testing.T) {
	r := api.Record{Key: 2, Time: 100, Value: -7}
	for s, want := range map[string][]int64{
		"7": {7}, "k": {2}, "t": {100}, "v": {-7}, "- v": {-7, 7}, "- - v": {-7, 7, -7}, "k * t + v": {2, 100, 200, -7, 193}, "v + k * t": {-7, 2, 100, 200, 193}, "(v - k) - (t - 1)": {-7, 2, -9, 100, 1, 99, -108},
		"v > 0 and t = 100": {-7, 0, 0, 100, 100, 1, 0}, "v < 0 or t = 100": {-7, 0, 1, 100, 100, 1, 1}, "v < 0 and t = 100": {-7, 0, 1, 100, 100, 1, 1}, "v > 0 or t != 100": {-7, 0, 0, 100, 100, 0, 0}, "0 * (v + t)": {0, -7, 100, 93, 0},
		"not (k != 2)": {2, 2, 0, 1}, "(k = 2) = (t > 100)": {2, 2, 1, 100, 100, 0, 0}, "k << t >> k": {2, 100, 137438953472, 2, 34359738368}, "v >> 1 >> 1": {-7, 1, -4, 1, -2}, "1 << k * - v": {1, 2, -7, 7, 14, 16384},
	} {
		l := parsed(t, s)
		expectAll(t, l, r, want, 0)
		expectOf(t, l, r, want[len(want)-1], 0)
	}
}

// P7.2: expressions with none, one, two and all of the fields.
func TestUsesByHand(t *testing.T) {
	for s, letters := range map[string]string{
		"7": "", "- 7": "", "1 + 2 * 3": "", "1 < 2": "", "not 1 = 2 and 3 >= 4": "", "2 << 3 >> 4": "",
		"k": "k", "t": "t", "v": "v", "- k": "k", "- - t": "t", "1 + v": "v", "v + 1": "v", "k * k": "k", "t - t": "t", "0 * v": "v", "not k < 1": "k", "1 = 1 or 1 = t": "t", "(1 + (2 + (3 + (4 + v)))) < 5": "v",
		"k + t": "kt", "t + k": "kt", "k + v": "kv", "v + k": "kv", "t + v": "tv", "v + t": "tv", "v + t + v + t": "tv", "k < 1 and (t < 1 or k = 2)": "kt", "not v = k": "kv", "(t = 1) != (v = 1)": "tv",
		"k + t + v": "ktv", "v * (t - k)": "ktv", "t << v >> k": "ktv", "k < 1 and t < 1 or v < 1": "ktv", "- (v + (t + (k + 1)))": "ktv", "v + t + k + v + t + k": "ktv",
	} {
		l := parsed(t, s)
		expectUses(t, l, letters, 0)
		// The other functions take the same expressions.
		if _, e := Of(l, api.Record{}); e != 0 {
			t.Errorf("Of(%q) has the error %d", s, e)
		}
	}
}

// P7.2: each list of up to four leaves, joined in each way: the fields that there are, wherever they stand.
func TestUsesOfEachList(t *testing.T) {
	lists := [][]*tree{{}}
	for i := 0; i < len(lists) && len(lists[i]) < 4; i++ {
		for kind := uint8(1); kind <= 4; kind++ {
			lists = append(lists, append(slices.Clone(lists[i]), one(kind)))
		}
	}
	for _, l := range lists[1:] {
		left, right, truth := l[0], l[len(l)-1], one(12, number(1), l[0])
		for i := 1; i < len(l); i++ {
			left = one(uint8(7+i), left, l[i])
			right = one(uint8(8+i), l[len(l)-1-i], right)
			truth = one(uint8(17+i%3), truth, one(16, number(2), l[i]))
		}
		letters := ""
		for i, letter := range "ktv" {
			if slices.ContainsFunc(l, func(x *tree) bool { return int(x.kind) == 2+i }) {
				letters += string(letter)
			}
		}
		for _, x := range []*tree{left, right, truth, one(5, left), one(6, truth)} {
			expectUses(t, x.list(), letters, 0)
		}
	}
}

// P7.1 and P7.2: all typed trees of up to five nodes, with all kinds, and what is not typed among them.
func TestAllSmallTrees(t *testing.T) {
	bySize := [][]*tree{nil, {number(3), one(2), one(3), one(4)}}
	some := records()[:2]
	typed, others := 0, 0
	for size := 2; size <= 5; size++ {
		l := []*tree{}
		for _, x := range bySize[size-1] {
			l = append(l, one(5, x), one(6, x))
		}
		for first := 1; first < size-1; first++ {
			for _, a := range bySize[first] {
				for _, b := range bySize[size-1-first] {
					for kind := uint8(7); kind <= 19; kind++ {
						l = append(l, one(kind, a, b))
					}
				}
			}
		}
		bySize = append(bySize, l)
	}
	for _, l := range bySize {
		for _, x := range l {
			if x.isTyped() {
				typed++
			} else if others++; others%5 > 0 { // one of five is enough
				continue
			}
			expectTree(t, x, some...)
		}
	}
	if typed < 5000 || others < 5000 {
		t.Errorf("there are %d typed trees, and %d others", typed, others)
	}
}

// P7.1 and P7.2: large typed trees, for records from all over int64.
func TestLargeTrees(t *testing.T) {
	kinds, sizes, sorts := [20]int{}, [61]int{}, map[bool]int{}
	for _, x := range samples() {
		if !x.isTyped() {
			t.Fatalf("%v is not typed", brief(x.list()))
		}
		expectTree(t, x, records()...)
		sorts[x.isTruth()]++
		sizes[len(x.all())]++
		for _, part := range x.all() {
			kinds[part.kind]++
		}
	}
	large := 0
	for _, count := range sizes[40:] {
		large += count
	}
	if slices.Min(kinds[1:]) < 50 || sorts[true] < 100 || sorts[false] < 100 || large < 20 {
		t.Errorf("the kinds %v, %d large ones, %v", kinds, large, sorts)
	}
}

// P7.1 and P7.2 (nodes.Check's error first): lists that are no expressions, of nodes that fit and of nodes that do not.
func TestErrorsOfCheckComeFirst(t *testing.T) {
	v, less := api.Node{Kind: 4}, one(12, one(4), one(2)).list()
	misfit := one(6, one(4)).list()
	for _, x := range []struct {
		l    []api.Node
		code api.Errno
	}{
		{nil, 8}, {[]api.Node{}, 8}, {[]api.Node{{}}, 8}, {[]api.Node{{Kind: 20}}, 8}, {[]api.Node{{Kind: 255}}, 8}, {[]api.Node{{Kind: 5}}, 8}, {[]api.Node{{Kind: 6}}, 8}, {[]api.Node{{Kind: 19}}, 8},
		{[]api.Node{{Kind: 1, N: -1}}, 8}, {[]api.Node{{Kind: 1, N: math.MinInt64}}, 8}, {[]api.Node{{Kind: 2, N: 1}}, 8}, {[]api.Node{{Kind: 4, A: 1}}, 8}, {[]api.Node{{Kind: 3, B: 1}}, 8}, {[]api.Node{{Kind: 4, At: -1}}, 8}, {[]api.Node{{Kind: 4, At: 401}}, 8},
		{[]api.Node{v, v}, 8}, {[]api.Node{v, {Kind: 5, A: 1}}, 8}, {[]api.Node{v, {Kind: 5, A: -1}}, 8}, {[]api.Node{v, {Kind: 5, A: math.MaxInt}}, 8}, {[]api.Node{v, {Kind: 5, B: 1}}, 8}, {[]api.Node{v, {Kind: 6, N: 1}}, 8}, {[]api.Node{v, {Kind: 6, At: 401}}, 8},
		{[]api.Node{v, v, {Kind: 8}}, 8}, {[]api.Node{v, v, {Kind: 8, A: 1, B: 0}}, 8}, {[]api.Node{v, v, {Kind: 8, A: 0, B: 2}}, 8}, {[]api.Node{v, v, {Kind: 8, A: math.MinInt, B: math.MaxInt}}, 8}, {[]api.Node{v, v, {Kind: 18, A: 1, B: 1}}, 8}, {[]api.Node{v, v, {Kind: 20, B: 1}}, 8},
		{append(slices.Clone(misfit), v), 8}, {append(slices.Clone(misfit), misfit...), 8}, {append([]api.Node{v}, misfit...), 8}, {append(slices.Clone(less), less...), 8}, {append(slices.Clone(misfit), api.Node{}), 8}, {append(slices.Clone(misfit), api.Node{Kind: 5, A: 1, At: 401}), 8},
		{slices.Repeat([]api.Node{v}, 60), 8}, {slices.Repeat([]api.Node{v}, 61), 4}, {slices.Repeat(misfit, 31), 4}, {make([]api.Node, 60), 8}, {make([]api.Node, 61), 4}, {make([]api.Node, 5000), 4},
	} {
		expectError(t, x.l, x.code)
	}
}

// P7.1 and P7.2: expressions that are not typed, wherever the node is that does not fit.
func TestNotTyped(t *testing.T) {
	for _, s := range []string{
		"not v", "not 1", "- (v < 1)", "v + (k < 2)", "(v < 1) * 2", "1 - (t = 1)", "(v < 1) << 1", "1 >> (v < 1)", "(v < 1) < 2", "1 <= (v < 1)", "(v = 1) > (k = 1)", "1 >= (v < 1)", "(v < 1) = 1", "0 != (v < 1)",
		"v and k < 1", "v < 1 and k", "v or k", "1 or 1 = 1", "k < 1 and (v + (t < 2)) = 0", "not not not t", "(not v) = (k < 1)", "v < 1 or (k = 1 and not t)",
	} {
		expectError(t, parsed(t, s), 42)
	}
	for _, x := range untyped() {
		expectTree(t, x)
		for kind := uint8(5); kind <= 6; kind++ {
			expectError(t, one(kind, x).list(), 42)
		}
		for kind := uint8(7); kind <= 19; kind++ {
			expectError(t, one(kind, x, one(4)).list(), 42)
			expectError(t, one(kind, one(12, one(4), number(1)), x).list(), 42)
			expectError(t, one(kind, x, x).list(), 42)
		}
	}
}

// bush is a typed tree of some nodes that is not deep: a sum of fields, or a comparison of two.
func bush(size int, truth bool) *tree {
	kind := uint8(8)
	switch {
	case truth:
		kind = 13
	case size == 1:
		return one(4)
	case size == 2:
		return one(5, one(2))
	}
	first := (size - 1) / 2
	return one(kind, bush(first, false), bush(size-1-first, false))
}

// chain is as deep as it says, by nodes with one part, and by first or second parts.
func chain(depth int, truth bool, way int) *tree {
	x, side, turn := one(4), one(3), []uint8{7, 8, 9}
	kind := uint8(5)
	if truth {
		x, side, turn = one(12, one(4), one(2)), one(15, one(3), one(2)), []uint8{16, 18, 19, 17}
		kind = 6
	}
	for i := 0; x.depth() < depth; i++ {
		switch {
		case way == 0 || i%2 == 1: // so that there are not too many nodes
			x = one(kind, x)
		case way == 1:
			x = one(turn[i/2%len(turn)], x, side)
		default:
			x = one(turn[i/2%len(turn)], side, x)
		}
	}
	return x
}

// P7.1 and P7.2: MaxNodes nodes and one more, the depth MaxDepth and one more.
func TestLimits(t *testing.T) {
	for _, truth := range []bool{false, true} {
		for size := 57; size <= 64; size++ {
			x := bush(size, truth)
			if len(x.all()) != size || !x.isTyped() || x.depth() > 20 {
				t.Fatalf("%v is no sample of the size %d", brief(x.list()), size)
			}
			expectTree(t, x, records()...)
			if size > 60 {
				expectError(t, x.list(), 4)
			}
		}
		for depth := 17; depth <= 24; depth++ {
			for way := range 3 {
				x := chain(depth, truth, way)
				if depth <= 21 && len(x.all()) > 60 || !x.isTyped() || x.depth() != depth {
					t.Fatalf("%v is no sample of the depth %d", brief(x.list()), depth)
				}
				expectTree(t, x, records()...)
				if depth == 21 {
					expectError(t, x.list(), 34)
				}
			}
		}
	}
	// Too much of it, and not typed either.
	expectError(t, one(6, bush(59, false)).list(), 42)
	expectError(t, one(6, bush(60, false)).list(), 4)
	expectError(t, one(6, chain(19, false, 0)).list(), 42)
	expectError(t, one(6, chain(20, false, 0)).list(), 34)
}

// P7.3: the value of a node is that of its expression by itself, and what its operator gives for the values of its parts.
func TestPartsByThemselves(t *testing.T) {
	some := records()
	for i, x := range samples() {
		l, r := x.list(), some[i%len(some)]
		values, e := All(l, r)
		if e != 0 || len(values) != len(l) {
			t.Fatalf("All(%v, %v) = %v, %d", brief(l), r, values, e)
		}
		for at, node := range l {
			part, e := nodes.Part(l, at)
			if e != 0 {
				t.Fatalf("Part(%v, %d) has the error %d", brief(l), at, e)
			}
			expectOf(t, part, r, values[at], 0)
			expectAll(t, part, r, values[at+1-len(part):at+1], 0)
			count := len(x.all()[at].parts)
			if count == 0 {
				continue
			}
			second := int64(0)
			if count == 2 {
				second = values[node.B]
			}
			if n, e := ints.Do(node.Kind, values[node.A], second); n != values[at] || e != 0 {
				t.Errorf("the node %d of %v is %d for %v; its operator gives %d, %d", at, brief(l), values[at], r, n, e)
			}
		}
	}
}

// P7.3: expressions put together from others have the values that their operator gives for those of the others.
func TestPutTogether(t *testing.T) {
	all := samples()
	d := dice(11)
	counts := [20]int{}
	for range 6000 {
		x := one(uint8(5+d.below(15)), all[d.below(len(all))])
		if x.kind > 6 {
			x = one(x.kind, x.parts[0], all[d.below(len(all))])
		}
		if !x.isTyped() || x.depth() > 20 || len(x.all()) > 60 {
			continue
		}
		counts[x.kind]++
		r := records()[d.below(8)]
		lists, values := [][]api.Node{}, []int64{}
		for _, part := range x.parts {
			lists = append(lists, part.list())
			n, e := Of(part.list(), r)
			if e != 0 {
				t.Fatalf("Of(%v) has the error %d", brief(part.list()), e)
			}
			values = append(values, n)
		}
		l, e := nodes.Node(x.kind, 0, 0, lists...)
		if e != 0 {
			t.Fatalf("Node(%d, %v) has the error %d", x.kind, lists, e)
		}
		expectOf(t, l, r, gives(x.kind, values[0], append(values, 0)[1]), 0)
	}
	if slices.Min(counts[5:]) < 20 {
		t.Errorf("there are %v of the kinds", counts)
	}
}

// P7.3: a truth value is 0 or 1, of whatever it is made.
func TestTruthValuesAreZeroOrOne(t *testing.T) {
	for _, x := range samples() {
		all := x.all()
		for _, r := range records() {
			values, _ := All(x.list(), r)
			for at, n := range values {
				if all[at].isTruth() && n != 0 && n != 1 {
					t.Errorf("the node %d of %v is %d for %v", at, brief(x.list()), n, r)
				}
			}
		}
	}
}

// P7.3: what an expression does not use does not matter, and one that uses nothing has the same value for all records.
func TestWhatIsNotUsedDoesNotMatter(t *testing.T) {
	counts := map[string]int{}
	for _, x := range append(samples(), bush(30, true), number(5), one(8, number(math.MaxInt64), number(1)), one(6, one(12, number(2), number(3)))) {
		l := x.list()
		key, time, value, e := Uses(l)
		if e != 0 {
			t.Fatalf("Uses(%v) has the error %d", brief(l), e)
		}
		counts[x.uses()]++
		for _, r := range records() {
			want := x.values(r)
			for _, n := range []int64{math.MinInt64, -1, 0, 1, 77, math.MaxInt64} {
				other := api.Record{Key: n, Time: n, Value: n}
				if key {
					other.Key = r.Key
				}
				if time {
					other.Time = r.Time
				}
				if value {
					other.Value = r.Value
				}
				expectOf(t, l, other, want[len(want)-1], 0)
				expectAll(t, l, other, want, 0)
			}
		}
	}
	for _, letters := range []string{"", "k", "t", "v", "kt", "kv", "tv", "ktv"} {
		if counts[letters] == 0 {
			t.Errorf("no sample uses %q: %v", letters, counts)
		}
	}
}

// P7.2 and P7.3: what is used does matter, for expressions that have each field once.
func TestWhatIsUsedMatters(t *testing.T) {
	for s, want := range map[string][3]int64{"k": {1, 0, 0}, "t": {0, 1, 0}, "v": {0, 0, 1}, "k - t": {1, -1, 0}, "2 * v + 3 * k": {3, 0, 2}, "- t - v": {0, -1, -1}, "(k << 1) + (t << 2) + (v << 3)": {2, 4, 8}} {
		l := parsed(t, s)
		r := api.Record{Key: math.MaxInt64, Time: math.MinInt64, Value: -1}
		n, e := Of(l, r)
		for i, other := range []api.Record{{Key: r.Key + 1, Time: r.Time, Value: r.Value}, {Key: r.Key, Time: r.Time + 1, Value: r.Value}, {Key: r.Key, Time: r.Time, Value: r.Value + 1}} {
			expectOf(t, l, other, n+want[i], e)
		}
	}
}

// P7.1 and P7.2: where nodes stand does not matter.
func TestPlacesDoNotMatter(t *testing.T) {
	d := dice(13)
	for i, x := range append(samples(), untyped()...) {
		l, r := x.list(), records()[i%8]
		n, e := Of(l, r)
		values, f := All(l, r)
		letters, g := x.uses(), e
		if g != 0 {
			letters = ""
		}
		for _, place := range []int{0, 1, 399, 400, -1} {
			other := slices.Clone(l)
			for k := range other {
				other[k].At = place
				if place < 0 {
					other[k].At = d.below(401)
				}
			}
			expectOf(t, other, r, n, e)
			expectAll(t, other, r, values, f)
			expectUses(t, other, letters, g)
		}
	}
}

// P1 (R2): arguments are left as they were, also in front of and behind what is passed.
func TestArgumentsAreLeftAsTheyWere(t *testing.T) {
	other := api.Node{Kind: 77, N: 78, A: 79, B: 80, At: 81}
	lists := [][]api.Node{nil, {other}, slices.Repeat([]api.Node{other}, 61), chain(21, false, 0).list()}
	for _, x := range append(samples()[:120], untyped()...) {
		lists = append(lists, x.list())
	}
	for i, l := range lists {
		outer := slices.Concat([]api.Node{other, other}, l, []api.Node{other, other, other})
		before := slices.Clone(outer)
		inner := outer[2 : 2+len(l)]
		Of(inner, records()[i%8])
		All(inner, records()[i%8])
		Uses(inner)
		if !slices.Equal(outer, before) {
			t.Errorf("%v was changed to %v", brief(before), brief(outer))
		}
	}
}

// P1 (R2): each call gives new memory, and a call depends on its arguments alone.
func TestResultsShareNoMemory(t *testing.T) {
	for i, x := range samples() {
		l, r, s := x.list(), records()[i%8], records()[(i+3)%8]
		want, between := x.values(r), x.values(s)
		first, e := All(l, r)
		expectAll(t, l, s, between, 0)
		expectError(t, one(6, one(4)).list(), 42)
		expectError(t, nil, 8)
		second, f := All(l, r)
		whole := first[:cap(first)]
		for i := range whole {
			whole[i] += 3
		}
		third, g := All(l, r)
		if e != 0 || f != 0 || g != 0 || !slices.Equal(second, want) || !slices.Equal(third, want) {
			t.Fatalf("All(%v, %v) = %v, then %v; want %v", brief(l), r, second, third, want)
		}
		expectOf(t, l, r, want[len(want)-1], 0)
		// Nodes that change behind a call do not change its result.
		clear(l)
		if !slices.Equal(second, want) {
			t.Fatalf("behind the call it is %v; want %v", second, want)
		}
	}
}
