package checks

import (
	"slices"
	"strconv"
	"strings"

	"tailwater/api"
)

// The tests have expressions as trees that know where their nodes stand, and tell what is wrong with them by words: n is a number, t a truth value.

// tree is an expression.
type tree struct {
	kind  uint8
	n     int64
	at    int
	parts []*tree
}

// one is a tree over others.
func one(kind uint8, parts ...*tree) *tree { return &tree{kind: kind, parts: parts} }

// number is a tree of a number.
func number(n int64) *tree { return &tree{kind: 1, n: n} }

// fresh is the same tree, which shares nothing with it, nor has a part twice.
func (x *tree) fresh() *tree {
	c := &tree{kind: x.kind, n: x.n, at: x.at}
	for _, part := range x.parts {
		c.parts = append(c.parts, part.fresh())
	}
	return c
}

// all returns a tree and those of its parts, in the order of their nodes.
func (x *tree) all() []*tree {
	l := []*tree{}
	for _, part := range x.parts {
		l = append(l, part.all()...)
	}
	return append(l, x)
}

// placed is the same tree with other places, which a rule gives for the indices of its nodes.
func (x *tree) placed(rule func(i int) int) *tree {
	c := x.fresh()
	for i, part := range c.all() {
		part.at = rule(i)
	}
	return c
}

// numbered is the same tree with numbers for its leaves, which may be those of kinds.
func (x *tree) numbered() *tree {
	c := x.fresh()
	for i, part := range c.all() {
		if len(part.parts) == 0 {
			part.kind, part.n = 1, int64(i%5)
		}
	}
	return c
}

// behind returns a list with the nodes of a tree behind it, in their order.
func (x *tree) behind(l []api.Node) []api.Node {
	node := api.Node{Kind: x.kind, N: x.n, At: x.at}
	for i, part := range x.parts {
		l = part.behind(l)
		if i == 0 {
			node.A = len(l) - 1
		} else {
			node.B = len(l) - 1
		}
	}
	return append(l, node)
}

// list returns the nodes of a tree; there are none without one.
func (x *tree) list() []api.Node {
	if x == nil {
		return nil
	}
	return x.behind(nil)
}

// depth returns how deep a tree is.
func (x *tree) depth() int {
	d := 0
	for _, part := range x.parts {
		d = max(d, part.depth())
	}
	return d + 1
}

// taken returns the words that a kind takes.
func taken(kind uint8) []string {
	switch kind {
	case 1, 2, 3, 4:
		return []string{""}
	case 5:
		return []string{"n"}
	case 6:
		return []string{"t"}
	case 7, 8, 9, 10, 11, 12, 13, 14, 15:
		return []string{"nn"}
	case 16, 17:
		return []string{"nn", "tt"}
	}
	return []string{"tt"}
}

// given returns the word that a kind gives.
func given(kind uint8) string {
	if kind == 6 || kind >= 12 {
		return "t"
	}
	return "n"
}

// wrong returns the first node that does not fit, or the whole, if it does not give what is asked for, or nothing.
func (x *tree) wrong(asked string) *tree {
	for _, part := range x.all() {
		word := ""
		for _, below := range part.parts {
			word += given(below.kind)
		}
		if !slices.Contains(taken(part.kind), word) {
			return part
		}
	}
	if given(x.kind) != asked {
		return x
	}
	return nil
}

// constant reports whether a tree has no field of a record.
func (x *tree) constant() bool {
	for _, part := range x.all() {
		if part.kind >= 2 && part.kind <= 4 {
			return false
		}
	}
	return true
}

// wrongNode tells the same of the nodes of an expression, by their order alone: what they give and is not taken yet is a word.
// It returns an index, or -1.
func wrongNode(l []api.Node, asked string) int {
	word := ""
	for i, node := range l {
		takes := taken(node.Kind)
		rest := len(word) - len(takes[0])
		if !slices.Contains(takes, word[rest:]) {
			return i
		}
		word = word[:rest] + given(node.Kind)
	}
	if word != asked {
		return len(l) - 1
	}
	return -1
}

// typed returns a small tree for each kind that is typed.
func typed() []*tree {
	l := []*tree{number(7), one(2), one(3), one(4), one(5, one(4)), one(6, one(12, one(4), number(1)))}
	for kind := uint8(7); kind <= 17; kind++ {
		l = append(l, one(kind, one(4), one(2)))
	}
	less := one(12, one(3), one(4))
	return append(l, one(18, less, less), one(19, less, less))
}

// untyped returns small trees with a node that does not fit, for each kind that has parts.
func untyped() []*tree {
	less := one(12, one(4), number(1))
	l := []*tree{one(5, less), one(6, one(4))}
	for kind := uint8(7); kind <= 17; kind++ {
		l = append(l, one(kind, less, one(2)), one(kind, one(2), less))
	}
	for kind := uint8(18); kind <= 19; kind++ {
		l = append(l, one(kind, less, one(2)), one(kind, one(2), less), one(kind, one(2), one(3)))
	}
	return l
}

// trees returns all trees with up to some nodes.
func trees(size int) []*tree {
	all := [][]*tree{nil, {number(6), one(2), one(3), one(4)}}
	for n := 2; n <= size; n++ {
		l := []*tree{}
		for _, part := range all[n-1] {
			l = append(l, one(5, part), one(6, part))
		}
		for m := 1; m < n-1; m++ {
			for _, a := range all[m] {
				for _, b := range all[n-1-m] {
					for kind := uint8(7); kind <= 19; kind++ {
						l = append(l, one(kind, a, b))
					}
				}
			}
		}
		all = append(all, l)
	}
	return slices.Concat(all...)
}

// bush is a tree of some nodes, all but the whole of them over numbers alone, that is not deep.
func bush(size int, kind uint8, leaf *tree) *tree {
	switch size {
	case 1:
		return leaf
	case 2:
		return one(5, leaf)
	}
	first := (size - 1) / 2
	return one(kind, bush(first, 8, leaf), bush(size-1-first, 8, leaf))
}

// chain is some nodes with one part over a leaf.
func chain(depth int, kind uint8, leaf *tree) *tree {
	x := leaf
	for x.depth() < depth {
		x = one(kind, x)
	}
	return x
}

// dice gives numbers by a fixed rule.
type dice uint32

func (d *dice) below(n int) int {
	*d = *d*1664525 + 1013904223
	return int(*d>>16) % n
}

// of returns one of some kinds.
func (d *dice) of(kinds ...uint8) uint8 { return kinds[d.below(len(kinds))] }

// grown returns a typed tree of about some nodes: a truth value needs three at least.
func (d *dice) grown(size int, truth bool) *tree {
	switch {
	case !truth && size < 2:
		x := one(d.of(1, 2, 3, 4))
		if x.kind == 1 {
			x.n = int64(d.below(5))
		}
		return x
	case !truth && (size == 2 || d.below(4) == 0):
		return one(5, d.grown(size-1, false))
	case !truth:
		return d.halves(d.of(7, 8, 9, 10, 11), size, 1, false)
	case size > 3 && d.below(5) == 0:
		return one(6, d.grown(size-1, true))
	case size < 7 || d.below(3) == 0:
		return d.halves(d.of(12, 13, 14, 15, 16, 17), size, 1, false)
	}
	return d.halves(d.of(16, 17, 18, 19), size, 3, true)
}

// halves returns a tree over two others, which have at least some nodes.
func (d *dice) halves(kind uint8, size, least int, truth bool) *tree {
	first := least + d.below(max(1, size-2*least))
	return one(kind, d.grown(first, truth), d.grown(size-1-first, truth))
}

// placing returns a rule for places that are all different, as far as there are any, in an order of its own.
func (d *dice) placing() func(i int) int {
	from, step := d.below(401), []int{1, 400, 7, 394, 101, 201}[d.below(6)]
	return func(i int) int { return (from + step*i) % 401 }
}

// samples returns trees of many sizes that are valid, half of them as they are typed, the others with a kind or two changed; all with places.
func samples(count int, seed dice) []*tree {
	d := seed
	l := []*tree{}
	for len(l) < count {
		x := d.grown(1+d.below(60), d.below(2) == 0)
		if x.depth() > 20 || len(x.all()) > 60 {
			continue
		}
		x = x.placed(d.placing())
		for range d.below(4) - 1 {
			all := x.all()
			d.spoil(all[d.below(len(all))])
		}
		l = append(l, x)
	}
	return l
}

// spoil gives a node another kind with as many parts.
func (d *dice) spoil(x *tree) {
	switch len(x.parts) {
	case 0:
		x.kind, x.n = d.of(1, 2, 3, 4), 0
	case 1:
		x.kind = d.of(5, 6)
	case 2:
		x.kind = uint8(7 + d.below(13))
	}
}

// writer writes tokens, with blanks by a rule.
type writer struct {
	s     string
	count int
}

// token writes a token, and returns where it stands.
func (w *writer) token(text string) int {
	w.count++
	w.s += []string{" ", "\n", "  ", " ", " \n"}[w.count%5] + text
	return len(w.s) - len(text)
}

// tokens writes some tokens.
func (w *writer) tokens(s string) {
	for _, text := range strings.Fields(s) {
		w.token(text)
	}
}

// expr writes a tree with brackets around each part that has parts, and gives its nodes their places.
func (w *writer) expr(x *tree) {
	texts := []string{"", strconv.FormatInt(x.n, 10), "k", "t", "v", "-", "not", "*", "+", "-", "<<", ">>", "<", "<=", ">", ">=", "=", "!=", "and", "or"}
	if len(x.parts) == 2 {
		w.part(x.parts[0])
	}
	x.at = w.token(texts[x.kind])
	if len(x.parts) > 0 {
		w.part(x.parts[len(x.parts)-1])
	}
}

// part writes a part of an expression.
func (w *writer) part(x *tree) {
	if len(x.parts) == 0 {
		w.expr(x)
		return
	}
	w.token("(")
	w.expr(x)
	w.token(")")
}

// query writes a query with two trees, or without those that are nil, and returns it with them.
func (w *writer) query(q api.Query, arg, where *tree) api.Query {
	if arg == nil {
		w.tokens("select count ( * )")
	} else {
		w.tokens("select " + []string{"sum", "min", "max"}[q.Agg-2] + " (")
		w.expr(arg)
		w.token(")")
	}
	between := "union"
	if q.Join {
		between = "join"
	}
	for i, source := range q.Sources {
		w.token([]string{"from", between, between, between}[i])
		w.token("abcd"[source : source+1])
	}
	if where != nil {
		w.token("where")
		w.expr(where)
	}
	w.tokens("window " + []string{"", "tumble", "slide", "session"}[q.Window.Kind] + " " + strconv.FormatInt(q.Window.Size, 10))
	if q.Window.Kind == 2 {
		w.tokens("every " + strconv.FormatInt(q.Window.Every, 10))
	}
	if q.ByKey {
		w.tokens("by key")
	}
	if q.Late == 2 {
		w.tokens("late side")
	}
	q.Arg, q.Where = arg.list(), where.list()
	return q
}
