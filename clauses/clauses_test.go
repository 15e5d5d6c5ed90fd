package clauses

import (
	"fmt"
	"math"
	"math/big"
	"slices"
	"strings"
	"testing"

	"tailwater/api"
	"tailwater/nodes"
)

// The tests have samples of each part of a query, with the error that is written beside each one: what a query gives is told from these, in the chapter's order.

// expression is an argument or a condition, with the error that it has as an expression.
type expression struct {
	l    []api.Node
	code api.Errno
}

// sources are a list, with its error, and with that of a join.
type sources struct {
	l           []int
	code, joins api.Errno
}

// windows are windows, with their error.
type windows struct {
	w    api.Window
	code api.Errno
}

// value is v, at a place.
func value(at int) []api.Node { return []api.Node{{Kind: 4, At: at}} }

// product is v + 2 * k, where all nodes stand some places further than in "v + 2 * k".
func product(by int) []api.Node {
	return []api.Node{{Kind: 4, At: by}, {Kind: 1, N: 2, At: by + 4}, {Kind: 2, At: by + 8}, {Kind: 7, A: 1, B: 2, At: by + 6}, {Kind: 8, A: 0, B: 3, At: by + 2}}
}

// less is v < n, at a place.
func less(n int64, at int) []api.Node {
	return []api.Node{{Kind: 4, At: at}, {Kind: 1, N: n, At: at + 4}, {Kind: 12, A: 0, B: 1, At: at + 2}}
}

// chain is v below nodes with one part: as deep as it says.
func chain(depth int) []api.Node {
	l := value(0)
	for i := range depth - 1 {
		l = append(l, api.Node{Kind: 5, A: i, At: i})
	}
	return l
}

// broad is an expression of some nodes, of which half are v, each with a sum behind it; it is not deep.
func broad(size int) []api.Node {
	if size == 1 {
		return value(0)
	}
	if size%2 == 0 {
		l := broad(size - 1)
		return append(l, api.Node{Kind: 5, A: size - 2})
	}
	first := (size - 1) / 2
	if first%2 == 0 {
		first--
	}
	l := broad(first)
	for _, node := range broad(size - 1 - first) {
		if node.Kind == 8 || node.Kind == 5 {
			node.A += first
		}
		if node.Kind == 8 {
			node.B += first
		}
		l = append(l, node)
	}
	return append(l, api.Node{Kind: 8, A: first - 1, B: size - 2})
}

// tooMany is an expression but for its 61 nodes, tooDeep one but for its depth of 21, and broken has a part that there is not.
func tooMany() []api.Node { return broad(61) }
func tooDeep() []api.Node { return chain(21) }
func broken() []api.Node  { return []api.Node{{Kind: 4}, {Kind: 5, A: 1}} }

// someExpressions are lists with what nodes.Check returns for them: an empty one is ErrBad.
func someExpressions() []expression {
	return []expression{
		{nil, 8}, {[]api.Node{}, 8}, {value(11), 0}, {product(0), 0}, {less(7, 300), 0}, {broad(60), 0}, {chain(20), 0},
		{tooMany(), 4}, {tooDeep(), 34}, {broken(), 8}, {[]api.Node{{}}, 8}, {[]api.Node{{Kind: 4, At: 401}}, 8},
	}
}

// someSources are lists with their errors.
func someSources() []sources {
	return []sources{
		{[]int{0}, 0, 8}, {[]int{3}, 0, 8}, {[]int{2, 0}, 0, 0}, {[]int{0, 3}, 0, 0}, {[]int{3, 1, 0}, 0, 8}, {[]int{1, 0, 3, 2}, 0, 8},
		{nil, 8, 8}, {[]int{}, 8, 8}, {[]int{4}, 8, 8}, {[]int{0, -1}, 8, 8}, {[]int{2, 2}, 43, 43}, {[]int{1, 2, 1}, 43, 8}, {[]int{0, 1, 2, 3, 0}, 4, 4},
	}
}

// someWindows are windows with their errors.
func someWindows() []windows {
	return []windows{
		{api.Window{Kind: 1, Size: 60}, 0}, {api.Window{Kind: 1, Size: 1 << 30}, 0}, {api.Window{Kind: 2, Size: 60, Every: 10}, 0}, {api.Window{Kind: 2, Size: 60, Every: 60}, 0}, {api.Window{Kind: 3, Size: 60}, 0},
		{api.Window{}, 8}, {api.Window{Kind: 1}, 8}, {api.Window{Kind: 1, Size: 60, Every: 60}, 8}, {api.Window{Kind: 2, Size: 60}, 8}, {api.Window{Kind: 2, Size: 60, Every: 3}, 8},
		{api.Window{Kind: 3, Size: 1<<30 + 1}, 8}, {api.Window{Kind: 4, Size: 60}, 8},
	}
}

// minimum is the query "select min(v) from a union d window tumble 60 late drop".
func minimum() api.Query {
	return api.Query{Agg: 3, Arg: value(11), Sources: []int{0, 3}, Window: api.Window{Kind: 1, Size: 60}, Late: 1}
}

// join is a query that joins.
func join() api.Query {
	q := minimum()
	q.Join = true
	return q
}

// with is a query that is changed.
func with(q api.Query, change func(q *api.Query)) api.Query {
	change(&q)
	return q
}

// brief returns how a test tells a query, or a part of it: the beginning of a long one.
func brief(x any) string {
	s := fmt.Sprintf("%+v", x)
	return s[:min(len(s), 400)]
}

func expectWindow(t *testing.T, w api.Window, want api.Errno) {
	t.Helper()
	if e := Window(w); e != want {
		t.Errorf("Window(%+v) = %d; want %d", w, e, want)
	}
}

func expectSources(t *testing.T, l []int, join bool, want api.Errno) {
	t.Helper()
	if e := Sources(l, join); e != want {
		t.Errorf("Sources(%s, %v) = %d; want %d", brief(l), join, e, want)
	}
}

func expectName(t *testing.T, source int, want string, code api.Errno) {
	t.Helper()
	if name, e := Name(source); name != want || e != code {
		t.Errorf("Name(%d) = %q, %d; want %q, %d", source, name, e, want, code)
	}
}

func expectSource(t *testing.T, name string, want int, code api.Errno) {
	t.Helper()
	if source, e := Source(name); source != want || e != code {
		t.Errorf("Source(%q) = %d, %d; want %d, %d", name, source, e, want, code)
	}
}

func expectCheck(t *testing.T, q api.Query, want api.Errno) {
	t.Helper()
	if e := Check(q); e != want {
		t.Errorf("Check(%s) = %d; want %d", brief(q), e, want)
	}
}

func expectSame(t *testing.T, p, q api.Query, want bool, code api.Errno) {
	t.Helper()
	if same, e := Same(p, q); same != want || e != code {
		t.Errorf("Same(%s, %s) = %v, %d; want %v, %d", brief(p), brief(q), same, e, want, code)
	}
}

// first returns the first error of some, or none.
func first(codes ...api.Errno) api.Errno {
	for _, e := range codes {
		if e != 0 {
			return e
		}
	}
	return 0
}

// bad returns ErrBad if something is not so.
func bad(is bool) api.Errno {
	if is {
		return 8
	}
	return 0
}

// P8.1: the chapter's examples.
func TestExamples(t *testing.T) {
	expectWindow(t, api.Window{Kind: api.WiSlide, Size: 10, Every: 3}, api.OK)
	expectWindow(t, api.Window{Kind: api.WiSlide, Size: 10, Every: 11}, api.ErrBad)
	expectWindow(t, api.Window{Kind: api.WiSlide, Size: 17, Every: 1}, api.ErrBad)
	expectSources(t, []int{2, 0}, false, api.OK)
	expectSources(t, []int{2, 2}, false, api.ErrName)
	expectSources(t, []int{2}, true, api.ErrBad)
}

// P8.1: windows of each kind at each limit, and on both sides of it.
func TestWindowAtLimits(t *testing.T) {
	const most = 1 << 30
	for _, x := range []struct {
		kind        uint8
		size, every int64
		code        api.Errno
	}{
		{1, 1, 0, 0}, {1, 2, 0, 0}, {1, most - 1, 0, 0}, {1, most, 0, 0}, {3, 1, 0, 0}, {3, 60, 0, 0}, {3, most, 0, 0},
		{1, 0, 0, 8}, {1, -1, 0, 8}, {1, most + 1, 0, 8}, {1, math.MaxInt64, 0, 8}, {1, math.MinInt64, 0, 8}, {1, 1<<32 + 1, 0, 8},
		{3, 0, 0, 8}, {3, -1, 0, 8}, {3, most + 1, 0, 8}, {3, math.MaxInt64, 0, 8}, {3, math.MinInt64, 0, 8}, {3, 1<<32 + 1, 0, 8},
		{1, 10, 1, 8}, {1, 10, 10, 8}, {1, 10, -1, 8}, {1, 10, math.MinInt64, 8}, {3, 10, 1, 8}, {3, 10, 10, 8}, {3, 10, -1, 8}, {3, 10, math.MaxInt64, 8},
		{2, 1, 1, 0}, {2, 1, 0, 8}, {2, 1, 2, 8}, {2, 1, -1, 8}, {2, 0, 0, 8}, {2, 0, 1, 8}, {2, -1, -1, 8}, {2, -16, -1, 8}, {2, -1, 1, 8},
		{2, 15, 1, 0}, {2, 16, 1, 0}, {2, 17, 1, 8}, {2, 17, 2, 0}, {2, 32, 2, 0}, {2, 33, 2, 8}, {2, 31, 1, 8}, {2, 48, 3, 0}, {2, 49, 3, 8}, {2, 160, 10, 0}, {2, 161, 10, 8},
		{2, 10, 9, 0}, {2, 10, 10, 0}, {2, 10, 11, 8}, {2, 10, 0, 8}, {2, 10, -10, 8}, {2, 10, math.MaxInt64, 8}, {2, 10, math.MinInt64, 8},
		{2, most, most, 0}, {2, most, most - 1, 0}, {2, most, most + 1, 8}, {2, most, most / 16, 0}, {2, most, most/16 - 1, 8}, {2, most - 1, most / 16, 0}, {2, most - 16, most/16 - 1, 0}, {2, most - 15, most/16 - 1, 8},
		{2, most + 1, most, 8}, {2, most + 1, most + 1, 8}, {2, most + 1, most/16 + 1, 8}, {2, most, 1, 8}, {2, most, 0, 8},
		{2, math.MaxInt64, math.MaxInt64, 8}, {2, math.MaxInt64, 1 << 59, 8}, {2, math.MaxInt64, 1 << 60, 8}, {2, math.MaxInt64, 1, 8}, {2, math.MinInt64, math.MinInt64, 8}, {2, math.MinInt64, 1, 8}, {2, math.MinInt64, -1, 8},
	} {
		expectWindow(t, api.Window{Kind: x.kind, Size: x.size, Every: x.every}, x.code)
	}
}

// wantedWindow returns what Window has to return, by whole numbers of any size.
func wantedWindow(w api.Window) api.Errno {
	size, every := big.NewInt(w.Size), big.NewInt(w.Every)
	if size.Sign() < 1 || size.Cmp(big.NewInt(1073741824)) > 0 {
		return 8
	}
	switch w.Kind {
	case 1, 3:
		return bad(every.Sign() != 0)
	case 2:
		most := new(big.Int).Mul(every, big.NewInt(16))
		return bad(every.Sign() < 1 || every.Cmp(size) > 0 || size.Cmp(most) > 0)
	}
	return 8
}

// P8.1: windows of all kinds with all small numbers, and numbers around powers of two.
func TestWindowOfManyNumbers(t *testing.T) {
	for size := int64(-3); size <= 90; size++ {
		for every := int64(-3); every <= 93; every++ {
			for kind := range uint8(6) {
				w := api.Window{Kind: kind, Size: size, Every: every}
				expectWindow(t, w, wantedWindow(w))
			}
		}
	}
	numbers := []int64{}
	for shift := range 64 {
		for _, by := range []int64{-15, -1, 0, 1, 16} {
			n := int64(1)<<shift + by
			numbers = append(numbers, n, -n, 3*n)
		}
	}
	for _, size := range numbers {
		for _, every := range numbers {
			for kind := uint8(1); kind <= 3; kind++ {
				w := api.Window{Kind: kind, Size: size, Every: every}
				expectWindow(t, w, wantedWindow(w))
			}
		}
	}
}

// P8.1: kinds of windows that there are, and that there are not.
func TestWindowOfEachKind(t *testing.T) {
	for kind := range 256 {
		expectWindow(t, api.Window{Kind: uint8(kind), Size: 10}, bad(kind != 1 && kind != 3))
		expectWindow(t, api.Window{Kind: uint8(kind), Size: 10, Every: 10}, bad(kind != 2))
		expectWindow(t, api.Window{Kind: uint8(kind)}, 8)
	}
	expectWindow(t, api.Window{Kind: api.WiTumble, Size: api.MaxSize}, api.OK)
	expectWindow(t, api.Window{Kind: api.WiSlide, Size: api.MaxEvery, Every: 1}, api.OK)
	expectWindow(t, api.Window{Kind: api.WiSession, Size: api.MaxSize}, api.OK)
}

// P8.1: sources of each length, out of range, and twice the same, joined and not.
func TestSources(t *testing.T) {
	for _, x := range slices.Concat(someSources(), []sources{
		{[]int{1}, 0, 8}, {[]int{2}, 0, 8}, {[]int{0, 1}, 0, 0}, {[]int{3, 2}, 0, 0}, {[]int{0, 1, 2}, 0, 8}, {[]int{0, 1, 2, 3}, 0, 8}, {[]int{3, 2, 1, 0}, 0, 8},
		{[]int{-1}, 8, 8}, {[]int{0, 4}, 8, 8}, {[]int{4, 0}, 8, 8}, {[]int{0, 1, 4}, 8, 8}, {[]int{0, 1, 2, 4}, 8, 8}, {[]int{-1, 1, 2, 3}, 8, 8},
		{[]int{math.MaxInt}, 8, 8}, {[]int{math.MinInt, 0}, 8, 8}, {[]int{256}, 8, 8}, {[]int{1 << 32, 1}, 8, 8}, {[]int{1, 1<<32 + 2}, 8, 8}, {[]int{1 << 16}, 8, 8},
		{[]int{0, 0}, 43, 43}, {[]int{3, 3}, 43, 43}, {[]int{0, 0, 1}, 43, 8}, {[]int{1, 0, 0}, 43, 8}, {[]int{0, 1, 2, 0}, 43, 8}, {[]int{0, 1, 2, 2}, 43, 8}, {[]int{3, 3, 3, 3}, 43, 8},
	}) {
		expectSources(t, x.l, false, x.code)
		expectSources(t, x.l, true, x.joins)
	}
}

// P8.1: of several errors of sources, too many come first, then what is bad, and then what is there twice.
func TestSourcesWithSeveralErrors(t *testing.T) {
	for _, x := range []sources{
		{[]int{4, 0, 1, 2, 3}, 4, 4}, {[]int{0, 0, 0, 0, 0}, 4, 4}, {[]int{-1, -1, 9, 9, 0, 0}, 4, 4}, {make([]int, 3000), 4, 4}, {slices.Repeat([]int{7}, 3000), 4, 4},
		{[]int{2, 2, 4}, 8, 8}, {[]int{4, 2, 2}, 8, 8}, {[]int{4, 4}, 8, 8}, {[]int{-1, -1}, 8, 8}, {[]int{0, 0, -1, 1}, 8, 8}, {[]int{0, 4, 0}, 8, 8}, {[]int{1, 1, 1, math.MaxInt}, 8, 8},
		{[]int{1, 1, 1}, 43, 8}, {[]int{0, 1, 1, 0}, 43, 8},
	} {
		expectSources(t, x.l, false, x.code)
		expectSources(t, x.l, true, x.joins)
	}
}

// wantedSources returns what Sources has to return, with lists as words of which each letter is a source.
func wantedSources(l []int, join bool) api.Errno {
	word := ""
	for _, source := range l {
		word += string(rune('m' + source))
	}
	twice := false
	for _, letter := range word {
		twice = twice || strings.Count(word, string(letter)) > 1
	}
	switch {
	case len(word) > 4:
		return 4
	case word == "" || strings.Trim(word, "mnop") != "" || join && len(word) != 2:
		return 8
	case twice:
		return 43
	}
	return 0
}

// P8.1: all lists of up to five sources from -1 to 4.
func TestAllShortSources(t *testing.T) {
	valid := [2]int{}
	l := []int{}
	var fill func()
	fill = func() {
		for i, join := range []bool{false, true} {
			want := wantedSources(l, join)
			expectSources(t, l, join, want)
			if want == 0 {
				valid[i]++
			}
		}
		if len(l) == 5 {
			return
		}
		for source := -1; source <= 4; source++ {
			l = append(l, source)
			fill()
			l = l[:len(l)-1]
		}
	}
	fill()
	// 4, 12, 24 and 24 lists of 1, 2, 3 and 4 different sources.
	if valid != [2]int{64, 12} {
		t.Errorf("%v lists are valid", valid)
	}
}

// P8.4: in another order, sources are as valid as before.
func TestOrderOfSourcesDoesNotMatter(t *testing.T) {
	for _, x := range slices.Concat(someSources(), []sources{{[]int{0, 1, 2, 3}, 0, 8}, {[]int{0, 1, 2, 2}, 43, 8}, {[]int{0, 1, 1, 4}, 8, 8}, {[]int{0, 0, 3, 3}, 43, 8}}) {
		l := slices.Clone(x.l)
		var swap func(from int)
		swap = func(from int) {
			expectSources(t, l, false, x.code)
			expectSources(t, l, true, x.joins)
			for i := from; i < len(l); i++ {
				for j := i + 1; j < len(l); j++ {
					l[i], l[j] = l[j], l[i]
					swap(i + 1)
					l[i], l[j] = l[j], l[i]
				}
			}
		}
		swap(0)
		q := with(minimum(), func(q *api.Query) { q.Sources = slices.Clone(x.l) })
		slices.Reverse(q.Sources)
		expectCheck(t, q, x.code)
		q.Join = true
		expectCheck(t, q, x.joins)
	}
}

// P8.2: the names of all numbers near and far.
func TestNameOfEachNumber(t *testing.T) {
	for source := -700; source <= 700; source++ {
		switch source {
		case 0:
			expectName(t, source, "a", 0)
		case 1:
			expectName(t, source, "b", 0)
		case 2:
			expectName(t, source, "c", 0)
		case 3:
			expectName(t, source, "d", 0)
		default:
			expectName(t, source, "", 2)
		}
	}
	for _, source := range []int{math.MinInt, math.MinInt + 1, math.MinInt32, -1 << 32, 1<<16 + 1, math.MaxInt32, 1 << 32, 1<<32 + 1, 1<<63 - 4, math.MaxInt} {
		expectName(t, source, "", 2)
	}
}

// wantedSource checks what Source returns for a name by a list of all names.
func wantedSource(t *testing.T, name string) {
	t.Helper()
	if i := slices.Index([]string{"a", "b", "c", "d"}, name); i >= 0 {
		expectSource(t, name, i, 0)
		return
	}
	expectSource(t, name, 0, 2)
}

// P8.2: the sources of all texts of up to two bytes, of texts of some letters, and of others.
func TestSourceOfEachText(t *testing.T) {
	expectSource(t, "a", 0, 0)
	expectSource(t, "b", 1, 0)
	expectSource(t, "c", 2, 0)
	expectSource(t, "d", 3, 0)
	wantedSource(t, "")
	for i := range 256 {
		wantedSource(t, string([]byte{byte(i)}))
		for j := range 256 {
			wantedSource(t, string([]byte{byte(i), byte(j)}))
		}
	}
	for _, i := range "abcde" {
		for _, j := range "abcde" {
			for _, k := range "abcde" {
				wantedSource(t, string([]rune{i, j, k}))
			}
		}
	}
	for _, name := range []string{"abcd", "bcd", "cd", "dcba", "a\x00\x00", "a b c d", "union", "and", "by", "0", "3", "\u00e4", "\u0430", "\uff41", "\xff", strings.Repeat("a", 5000)} {
		expectSource(t, name, 0, 2)
	}
}

// P8.4: names and sources are a bijection.
func TestNamesAndSourcesAreABijection(t *testing.T) {
	seen := map[string]bool{}
	for source := range 4 {
		name, e := Name(source)
		back, f := Source(name)
		if e != 0 || f != 0 || back != source || seen[name] || len(name) != 1 {
			t.Errorf("the source %d has the name %q (%d), which is that of %d (%d)", source, name, e, back, f)
		}
		seen[name] = true
		expectSources(t, []int{source}, false, 0)
	}
	for i := range 256 {
		name := string([]byte{byte(i)})
		source, e := Source(name)
		if e != 0 {
			continue
		}
		if back, f := Name(source); back != name || f != 0 {
			t.Errorf("%q is the name of %d, which has the name %q (%d)", name, source, back, f)
		}
	}
}

// The lists that other tests rest on are what they say.
func TestSampleExpressions(t *testing.T) {
	for _, x := range someExpressions() {
		if e := nodes.Check(x.l); e != x.code {
			t.Errorf("nodes.Check(%s) = %d; want %d", brief(x.l), e, x.code)
		}
	}
	for _, size := range []int{1, 2, 3, 17, 58, 59, 60, 61, 62} {
		if l := broad(size); len(l) != size {
			t.Errorf("broad(%d) has %d nodes", size, len(l))
		}
	}
}

// P8.3: queries that are valid, of each kind.
func TestCheckOfValidQueries(t *testing.T) {
	for _, q := range []api.Query{
		minimum(), join(),
		{Agg: api.AgCount, Sources: []int{0}, Window: api.Window{Kind: api.WiTumble, Size: 5}, Late: api.LaDrop},
		{Agg: api.AgCount, Arg: []api.Node{}, Where: []api.Node{}, Sources: []int{0}, Window: api.Window{Kind: api.WiTumble, Size: 5}, Late: api.LaSide},
		{Agg: api.AgSum, Arg: product(4), Sources: []int{3, 2, 1, 0}, Where: less(9, 40), Window: api.Window{Kind: api.WiSlide, Size: 16, Every: 1}, ByKey: true, Late: api.LaSide},
		{Agg: api.AgMin, Arg: chain(20), Sources: []int{1, 3, 0}, Where: broad(60), Window: api.Window{Kind: api.WiSession, Size: 1 << 30}, Late: api.LaDrop},
		{Agg: api.AgMax, Arg: broad(60), Sources: []int{3}, Where: chain(20), Window: api.Window{Kind: api.WiSession, Size: 1}, ByKey: true, Late: api.LaDrop},
		{Agg: api.AgMax, Arg: less(1, 1), Sources: []int{2}, Where: value(5), Window: api.Window{Kind: api.WiTumble, Size: 1 << 30}, Late: api.LaSide},
		{Agg: api.AgCount, Sources: []int{2, 1}, Join: true, Where: less(0, 0), Window: api.Window{Kind: api.WiTumble, Size: 1}, ByKey: true, Late: api.LaSide},
		{Agg: api.AgSum, Arg: value(0), Sources: []int{0, 3}, Join: true, Window: api.Window{Kind: api.WiTumble, Size: 1 << 30}, Late: api.LaDrop},
	} {
		expectCheck(t, q, 0)
		expectSame(t, q, q, true, 0)
	}
}

// P8.3: each Agg and each Late that there is, and that there is not.
func TestCheckOfAggAndLate(t *testing.T) {
	for kind := range 256 {
		n := uint8(kind)
		expectCheck(t, with(minimum(), func(q *api.Query) { q.Agg = n }), bad(kind < 1 || kind > 4 || kind == 1))
		expectCheck(t, with(minimum(), func(q *api.Query) { q.Agg, q.Arg = n, nil }), bad(kind != 1))
		expectCheck(t, with(minimum(), func(q *api.Query) { q.Late = n }), bad(kind != 1 && kind != 2))
		expectCheck(t, with(join(), func(q *api.Query) { q.Late = n }), bad(kind != 1 && kind != 2))
	}
	expectCheck(t, api.Query{}, 8)
}

// P8.3: a count has no argument, and each other aggregate has one that is an expression.
func TestCheckOfArguments(t *testing.T) {
	for _, x := range someExpressions() {
		for agg := uint8(1); agg <= 4; agg++ {
			want := x.code
			if agg == 1 {
				want = bad(len(x.l) > 0)
			}
			for _, late := range []uint8{1, 2} {
				expectCheck(t, with(minimum(), func(q *api.Query) { q.Agg, q.Arg, q.Late = agg, x.l, late }), want)
				expectCheck(t, with(join(), func(q *api.Query) { q.Agg, q.Arg, q.Late = agg, x.l, late }), want)
			}
		}
	}
}

// P8.3: a condition is empty, or an expression.
func TestCheckOfConditions(t *testing.T) {
	for _, x := range someExpressions() {
		want := x.code
		if len(x.l) == 0 {
			want = 0
		}
		expectCheck(t, with(minimum(), func(q *api.Query) { q.Where = x.l }), want)
		expectCheck(t, with(minimum(), func(q *api.Query) { q.Agg, q.Arg, q.Where = 1, nil, x.l }), want)
		expectCheck(t, with(join(), func(q *api.Query) { q.Where = x.l }), want)
	}
}

// P8.3: MaxNodes nodes and one more, the depth MaxDepth and one more, of arguments and conditions.
func TestCheckAtLimitsOfExpressions(t *testing.T) {
	for n := 17; n <= 64; n++ {
		many, deep := api.Errno(0), api.Errno(0)
		if n > 60 {
			many = 4
		}
		if n > 20 {
			deep = 34
		}
		if n > 60 {
			deep = 4
		}
		for _, x := range []expression{{broad(n), many}, {chain(n), deep}} {
			expectCheck(t, with(minimum(), func(q *api.Query) { q.Arg = x.l }), x.code)
			expectCheck(t, with(minimum(), func(q *api.Query) { q.Where = x.l }), x.code)
			expectCheck(t, with(join(), func(q *api.Query) { q.Arg, q.Where = x.l, x.l }), x.code)
		}
	}
}

// P8.3: a join has windows of one kind alone, and two sources.
func TestCheckOfJoins(t *testing.T) {
	for _, x := range someWindows() {
		expectCheck(t, with(minimum(), func(q *api.Query) { q.Window = x.w }), x.code)
		want := x.code
		if x.w.Kind != 1 {
			want = 8
		}
		expectCheck(t, with(join(), func(q *api.Query) { q.Window = x.w }), want)
	}
	expectCheck(t, with(join(), func(q *api.Query) { q.Window = api.Window{Kind: api.WiSlide, Size: 5, Every: 5} }), api.ErrBad)
	expectCheck(t, with(join(), func(q *api.Query) { q.Window = api.Window{Kind: api.WiSession, Size: 5} }), api.ErrBad)
	for _, x := range someSources() {
		expectCheck(t, with(minimum(), func(q *api.Query) { q.Sources = x.l }), x.code)
		expectCheck(t, with(join(), func(q *api.Query) { q.Sources = x.l }), x.joins)
	}
}

// P8.3: two errors at a time: the one that is named first is returned.
func TestCheckOfTwoErrors(t *testing.T) {
	changes := []struct {
		place  int // in the order of what Check looks at
		code   api.Errno
		change func(q *api.Query)
	}{
		{0, 8, func(q *api.Query) { q.Agg = 0 }}, {0, 8, func(q *api.Query) { q.Agg = 5 }}, {0, 8, func(q *api.Query) { q.Late = 0 }}, {0, 8, func(q *api.Query) { q.Late = 3 }},
		{1, 4, func(q *api.Query) { q.Arg = tooMany() }}, {1, 34, func(q *api.Query) { q.Arg = tooDeep() }}, {1, 8, func(q *api.Query) { q.Arg = broken() }}, {1, 8, func(q *api.Query) { q.Arg = nil }}, {1, 8, func(q *api.Query) { q.Agg = 1 }},
		{2, 4, func(q *api.Query) { q.Where = tooMany() }}, {2, 34, func(q *api.Query) { q.Where = tooDeep() }}, {2, 8, func(q *api.Query) { q.Where = broken() }},
		{3, 4, func(q *api.Query) { q.Sources = []int{0, 1, 2, 3, 3} }}, {3, 8, func(q *api.Query) { q.Sources = []int{0, 4} }}, {3, 8, func(q *api.Query) { q.Sources = nil }}, {3, 43, func(q *api.Query) { q.Sources = []int{1, 1} }},
		{4, 8, func(q *api.Query) { q.Window.Size = 0 }}, {4, 8, func(q *api.Query) { q.Window.Every = 60 }},
		{5, 8, func(q *api.Query) { q.Join, q.Window.Kind = true, 3 }},
	}
	for _, x := range changes {
		expectCheck(t, with(minimum(), x.change), x.code)
		for _, y := range changes {
			if y.place <= x.place {
				continue
			}
			expectCheck(t, with(with(minimum(), x.change), y.change), x.code)
			expectCheck(t, with(with(join(), x.change), y.change), x.code)
		}
	}
	// A count with an argument is ErrBad, whatever the argument is.
	for _, l := range [][]api.Node{tooMany(), tooDeep(), broken(), value(0)} {
		expectCheck(t, with(minimum(), func(q *api.Query) { q.Agg, q.Arg, q.Where = 1, l, tooMany() }), 8)
	}
}

// eachQuery calls a function with queries of all samples of all parts, and the error of each.
func eachQuery(call func(q api.Query, code api.Errno)) {
	late := uint8(0)
	for agg := range uint8(6) {
		for i, arg := range someExpressions() {
			argument := arg.code
			if agg == 1 {
				argument = bad(len(arg.l) > 0)
			}
			for j, where := range someExpressions() {
				condition := where.code
				if len(where.l) == 0 {
					condition = 0
				}
				for k, list := range someSources() {
					for _, window := range someWindows() {
						late = (late + 1) % 5
						q := api.Query{Agg: agg, Arg: arg.l, Where: where.l, Sources: list.l, Window: window.w, ByKey: (i+j+k)%2 == 0, Late: late}
						choices := bad(agg < 1 || agg > 4 || late != 1 && late != 2)
						call(q, first(choices, argument, condition, list.code, window.code))
						q.Join = true
						call(q, first(choices, argument, condition, list.joins, window.code, bad(window.w.Kind != 1)))
					}
				}
			}
		}
	}
}

// P8.3 and P8.4: queries of all samples of all parts.
func TestCheckOfManyQueries(t *testing.T) {
	codes := map[api.Errno]int{}
	eachQuery(func(q api.Query, code api.Errno) {
		expectCheck(t, q, code)
		codes[code]++
	})
	for _, code := range []api.Errno{0, 4, 8, 34, 43} {
		if codes[code] < 100 {
			t.Errorf("only %d queries have the error %d", codes[code], code)
		}
	}
}

// validQueries are different queries that are valid, with all samples of each part by all of the others; joins are among them.
func validQueries() []api.Query {
	bases := []api.Query{}
	for _, q := range []api.Query{{Agg: 1}, {Agg: 2, Arg: value(3)}, {Agg: 2, Arg: product(9)}, {Agg: 4, Arg: value(3)}} {
		for late := uint8(1); late <= 2; late++ {
			for _, byKey := range []bool{false, true} {
				for _, where := range [][]api.Node{nil, less(1, 0)} {
					q.Late, q.ByKey, q.Where = late, byKey, where
					bases = append(bases, q)
				}
			}
		}
	}
	l := []api.Query{}
	for _, q := range bases {
		for _, list := range [][]int{{0}, {0, 1}, {1, 0}, {2, 3, 0}} {
			for _, window := range []api.Window{{Kind: 1, Size: 8}, {Kind: 1, Size: 9}, {Kind: 2, Size: 8, Every: 4}, {Kind: 3, Size: 8}} {
				q.Sources, q.Window, q.Join = list, window, false
				l = append(l, q)
				if len(list) == 2 && window.Kind == 1 {
					q.Join = true
					l = append(l, q)
				}
			}
		}
	}
	return l
}

// P8.4: a valid query with another valid part in the place of one is valid, unless it is a join.
func TestPartsAreValidByThemselves(t *testing.T) {
	for _, q := range validQueries() {
		expectCheck(t, q, 0)
		for _, x := range someWindows() {
			if x.code == 0 && (!q.Join || x.w.Kind == 1) {
				expectCheck(t, with(q, func(q *api.Query) { q.Window = x.w }), 0)
			}
		}
		for _, x := range someSources() {
			if x.code == 0 && (!q.Join || x.joins == 0) {
				expectCheck(t, with(q, func(q *api.Query) { q.Sources = x.l }), 0)
			}
		}
		for _, x := range someExpressions() {
			if x.code == 0 || len(x.l) == 0 {
				expectCheck(t, with(q, func(q *api.Query) { q.Where = x.l }), 0)
			}
			if x.code == 0 && q.Agg != 1 || len(x.l) == 0 && q.Agg == 1 {
				expectCheck(t, with(q, func(q *api.Query) { q.Arg = x.l }), 0)
			}
		}
		expectCheck(t, with(q, func(q *api.Query) { q.ByKey = !q.ByKey }), 0)
		expectCheck(t, with(q, func(q *api.Query) { q.Late = 3 - q.Late }), 0)
	}
}

// moved is a list of which the nodes stand elsewhere.
func moved(l []api.Node, by int) []api.Node {
	c := slices.Clone(l)
	for i := range c {
		c[i].At = (c[i].At + by*(i+1)) % 401
	}
	return c
}

// P8.3: queries that differ in the At of their nodes alone are the same, others are not.
func TestSameOfManyQueries(t *testing.T) {
	l := validQueries()
	for i, p := range l {
		elsewhere := p
		elsewhere.Arg, elsewhere.Where, elsewhere.Sources = moved(p.Arg, 7), moved(p.Where, 31), slices.Clone(p.Sources)
		for j, q := range l {
			expectSame(t, p, q, i == j, 0)
			expectSame(t, elsewhere, q, i == j, 0)
		}
	}
}

// P8.3: queries that differ in one part each, in both directions.
func TestSameOfQueriesWithOneDifference(t *testing.T) {
	base := api.Query{Agg: 2, Arg: product(0), Sources: []int{1, 2}, Where: less(5, 20), Window: api.Window{Kind: 2, Size: 8, Every: 4}, ByKey: true, Late: 2}
	tumbling := with(base, func(q *api.Query) { q.Window = api.Window{Kind: 1, Size: 8} })
	for _, x := range []struct {
		base   api.Query
		change func(q *api.Query)
	}{
		{base, func(q *api.Query) { q.Agg = 3 }}, {base, func(q *api.Query) { q.Agg = 4 }}, {base, func(q *api.Query) { q.Agg, q.Arg = 1, nil }},
		{base, func(q *api.Query) { q.Arg = value(0) }}, {base, func(q *api.Query) { q.Arg[1].N = 3 }}, {base, func(q *api.Query) { q.Arg[2].Kind = 3 }}, {base, func(q *api.Query) { q.Arg[4].Kind = 9 }},
		{base, func(q *api.Query) { q.Arg = append(q.Arg, api.Node{Kind: 5, A: 4}) }}, {base, func(q *api.Query) { q.Arg = q.Where }},
		{base, func(q *api.Query) {
			q.Arg[2], q.Arg[3], q.Arg[4] = api.Node{Kind: 8, A: 0, B: 1}, api.Node{Kind: 2}, api.Node{Kind: 7, A: 2, B: 3}
		}},
		{base, func(q *api.Query) { q.Sources = []int{1} }}, {base, func(q *api.Query) { q.Sources = []int{1, 2, 3} }}, {base, func(q *api.Query) { q.Sources = []int{1, 3} }}, {base, func(q *api.Query) { q.Sources = []int{2, 1} }}, {base, func(q *api.Query) { q.Sources[0] = 0 }},
		{base, func(q *api.Query) { q.Where = nil }}, {base, func(q *api.Query) { q.Where[1].N = 6 }}, {base, func(q *api.Query) { q.Where[2].Kind = 13 }}, {base, func(q *api.Query) { q.Where = q.Arg }}, {base, func(q *api.Query) { q.Where = q.Where[:1] }},
		{base, func(q *api.Query) { q.Window.Size = 9 }}, {base, func(q *api.Query) { q.Window.Every = 5 }}, {base, func(q *api.Query) { q.Window = api.Window{Kind: 3, Size: 8} }}, {base, func(q *api.Query) { q.Window = api.Window{Kind: 1, Size: 8} }},
		{tumbling, func(q *api.Query) { q.Window.Kind = 3 }}, {tumbling, func(q *api.Query) { q.Join = true }},
		{base, func(q *api.Query) { q.ByKey = false }}, {base, func(q *api.Query) { q.Late = 1 }},
	} {
		other := x.base
		other.Arg, other.Where, other.Sources = slices.Clone(other.Arg), slices.Clone(other.Where), slices.Clone(other.Sources)
		expectSame(t, x.base, other, true, 0)
		x.change(&other)
		expectCheck(t, other, 0)
		expectSame(t, x.base, other, false, 0)
		expectSame(t, other, x.base, false, 0)
		expectSame(t, other, other, true, 0)
	}
	for at := range 5 {
		other := base
		other.Arg = slices.Clone(base.Arg)
		other.Arg[at].At = 400
		expectSame(t, base, other, true, 0)
		expectSame(t, other, base, true, 0)
	}
	for at := range 3 {
		other := base
		other.Where = slices.Clone(base.Where)
		other.Where[at].At = 400
		expectSame(t, base, other, true, 0)
		expectSame(t, other, base, true, 0)
	}
}

// P1 (R3): nil and empty lists are the same.
func TestSameOfEmptyLists(t *testing.T) {
	p := with(minimum(), func(q *api.Query) { q.Agg, q.Arg, q.Where = 1, nil, nil })
	q := with(minimum(), func(q *api.Query) { q.Agg, q.Arg, q.Where = 1, []api.Node{}, []api.Node{} })
	expectSame(t, p, q, true, 0)
	expectSame(t, q, p, true, 0)
	p = with(join(), func(q *api.Query) { q.Where = value(1)[:0] })
	expectSame(t, p, join(), true, 0)
	expectSame(t, join(), p, true, 0)
}

// P8.3: the error of the first query that has one.
func TestErrorsOfSame(t *testing.T) {
	l := []api.Query{
		minimum(), join(), {},
		with(minimum(), func(q *api.Query) { q.Agg = 5 }), with(minimum(), func(q *api.Query) { q.Agg = 1 }),
		with(minimum(), func(q *api.Query) { q.Arg = tooMany() }), with(minimum(), func(q *api.Query) { q.Arg = tooDeep() }), with(minimum(), func(q *api.Query) { q.Where = tooDeep() }), with(minimum(), func(q *api.Query) { q.Where = broken() }),
		with(join(), func(q *api.Query) { q.Sources = []int{0, 0} }), with(join(), func(q *api.Query) { q.Sources = []int{0, 1, 2, 3, 0} }), with(join(), func(q *api.Query) { q.Sources = []int{0} }),
		with(minimum(), func(q *api.Query) { q.Window.Size = 0 }), with(join(), func(q *api.Query) { q.Window.Kind = 3 }), with(minimum(), func(q *api.Query) { q.Late = 0 }),
	}
	codes := []api.Errno{0, 0, 8, 8, 8, 4, 34, 34, 8, 43, 4, 8, 8, 8, 8}
	for i, p := range l {
		expectCheck(t, p, codes[i])
		for j, q := range l {
			code := first(codes[i], codes[j])
			expectSame(t, p, q, code == 0 && i == j, code)
		}
	}
}

// P1 (R2): arguments are left as they were, also in front of and behind what is passed.
func TestArgumentsAreLeftAsTheyWere(t *testing.T) {
	node := api.Node{Kind: 77, N: 78, A: 79, B: 80, At: 81}
	within := func(l []api.Node) []api.Node {
		return slices.Concat([]api.Node{node, node}, l, []api.Node{node, node, node})
	}
	for _, x := range someExpressions() {
		for _, y := range someSources() {
			arg, where, list := within(x.l), within(x.l), slices.Concat([]int{91, 92}, y.l, []int{93, 94})
			before, sources := slices.Clone(arg), slices.Clone(list)
			q := with(minimum(), func(q *api.Query) {
				q.Arg, q.Where, q.Sources = arg[2:2+len(x.l)], where[2:2+len(x.l)], list[2:2+len(y.l)]
			})
			p := minimum()
			Check(q)
			Sources(q.Sources, false)
			Sources(q.Sources, true)
			Same(q, q)
			Same(p, q)
			Same(q, p)
			if !slices.Equal(arg, before) || !slices.Equal(where, before) || !slices.Equal(list, sources) {
				t.Errorf("%s and %v were changed to %s, %s and %v", brief(before), sources, brief(arg), brief(where), list)
			}
		}
	}
}

// P1 (R2): nothing is kept: what a call returns depends on its arguments alone, even if their memory changes behind it.
func TestCallsDependOnTheirArgumentsAlone(t *testing.T) {
	l := []int{2, 0}
	for range 3 {
		expectSources(t, l, true, 0)
		l[1] = 2
		expectSources(t, l, true, 43)
		l[1] = 4
		expectSources(t, l, true, 8)
		l[1] = 0
		expectName(t, 2, "c", 0)
		expectName(t, 4, "", 2)
		expectSource(t, "d", 3, 0)
		expectSource(t, "e", 0, 2)
		expectWindow(t, api.Window{Kind: 2, Size: 10, Every: 3}, 0)
		expectWindow(t, api.Window{Kind: 2, Size: 10, Every: 11}, 8)
		q := join()
		expectCheck(t, q, 0)
		expectSame(t, q, join(), true, 0)
		q.Arg[0].Kind = 0
		expectCheck(t, q, 8)
		expectSame(t, q, join(), false, 8)
		expectSame(t, join(), q, false, 8)
		q.Arg[0].Kind = 2
		expectSame(t, q, join(), false, 0)
	}
}
