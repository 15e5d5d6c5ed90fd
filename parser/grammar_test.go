package parser

import (
	"regexp"
	"slices"
	"strconv"
	"strings"
	"sync"

	"tailwater/api"
	"tailwater/exprs"
	"tailwater/lexer"
)

// The tests have the grammar twice: as a tree of all the ways that a query may take, which tells what a text has to give, and as a pattern for the texts of tokens, which tells whether a text is a query, and asks no other layer about expressions.

// stand is a place in the grammar: what may stand there, with the place behind it, and whether a query may end there.
// With a code, what leads there is an error.
type stand struct {
	next map[string]*stand
	ends bool
	code api.Errno
}

// What stands for all expressions, for all sizes, and for all numbers behind "every".
const (
	anExpr  = "#expr"
	aSize   = "#size"
	anEvery = "#every"
)

// put puts a way into the tree, and returns where it leads.
func (p *stand) put(way string) *stand {
	for _, s := range strings.Fields(way) {
		if p.next == nil {
			p.next = map[string]*stand{}
		}
		if p.next[s] == nil {
			p.next[s] = &stand{}
		}
		p = p.next[s]
	}
	return p
}

// origin is what may stand behind "from", and the error that its last name has.
type origin struct {
	way  string
	join bool
	code api.Errno
}

// origins returns all lists of names up to the first one that is there twice, and all pairs that are joined.
func origins() []origin {
	l := []origin{}
	for _, a := range "abcd" {
		for _, b := range "abcd" {
			o := origin{way: string(a) + " join " + string(b), join: true}
			if a == b {
				o.code = 43
			}
			l = append(l, o)
		}
	}
	for lists := []string{"a", "b", "c", "d"}; len(lists) > 0; {
		longer := []string{}
		for _, list := range lists {
			l = append(l, origin{way: list})
			for _, name := range []string{"a", "b", "c", "d"} {
				if slices.Contains(strings.Fields(list), name) {
					l = append(l, origin{way: list + " union " + name, code: 43})
				} else {
					longer = append(longer, list+" union "+name)
				}
			}
		}
		lists = longer
	}
	return l
}

// What may stand in front of "from", behind the sources, behind "window", and behind the windows.
func heads() []string {
	return []string{"select count ( * )", "select sum ( " + anExpr + " )", "select min ( " + anExpr + " )", "select max ( " + anExpr + " )"}
}
func conditions() []string { return []string{"", "where " + anExpr} }
func widths() []string {
	return []string{"tumble " + aSize, "slide " + aSize + " every " + anEvery, "session " + aSize}
}
func tails() []string {
	return []string{"", "by key", "late drop", "late side", "by key late drop", "by key late side"}
}

// grammar returns the tree of all ways.
var grammar = sync.OnceValue(func() *stand {
	root := &stand{}
	for _, head := range heads() {
		for _, from := range origins() {
			p := root.put(head + " from " + from.way)
			p.code = from.code
			if p.code != 0 {
				continue
			}
			for _, condition := range conditions() {
				windows := p.put(condition + " window")
				for _, width := range widths() {
					if from.join && !strings.HasPrefix(width, "tumble") {
						windows.put(strings.Fields(width)[0]).code = 8
						continue
					}
					for _, tail := range tails() {
						windows.put(width + " " + tail).ends = true
					}
				}
			}
		}
	}
	return root
})

// going is a text on its way through the tree: what it went through, and the expressions and numbers that it had there.
type going struct {
	l     []api.Token
	end   int
	at    int
	p     *stand
	way   []string
	exprs [][]api.Node
	size  int64
	every int64
}

// wanted returns what Parse has to return.
func wanted(s string) (api.Query, int, api.Errno) {
	l, n, e := lexer.All(s)
	if e != 0 {
		return api.Query{}, n, e
	}
	g := &going{l: l, end: n, p: grammar()}
	for g.at < len(l) || !g.p.ends {
		if e := g.step(); e != 0 {
			return api.Query{}, g.place(g.at), e
		}
	}
	return g.query(), n, 0
}

// place returns where a token stands, or the end.
func (g *going) place(i int) int {
	if i == len(g.l) {
		return g.end
	}
	return g.l[i].At
}

// step goes on by one token, or one expression.
func (g *going) step() (e api.Errno) {
	label, behind := g.label()
	if label == anExpr {
		var x []api.Node
		x, behind, e = exprs.Parse(g.l, g.at)
		if e != 0 {
			g.at = behind
			return e
		}
		g.exprs = append(g.exprs, x)
	}
	p := g.p.next[label]
	switch {
	case p == nil && g.p.ends:
		return 38
	case p == nil:
		return 12
	case p.code != 0:
		return p.code
	case label == aSize:
		g.size = g.number()
		if g.size < 1 || g.size > 1073741824 {
			return 16
		}
	case label == anEvery:
		g.every = g.number()
		if g.every < 1 || g.every > g.size || (g.size+15)/16 > g.every {
			return 16
		}
	}
	g.p, g.at, g.way = p, behind, append(g.way, label)
	return 0
}

// label returns what the next token is in the tree, and the index behind it.
func (g *going) label() (string, int) {
	if g.p.next[anExpr] != nil {
		return anExpr, 0
	}
	if g.at == len(g.l) {
		return "", g.at
	}
	if g.l[g.at].Kind != 1 {
		return g.l[g.at].Text, g.at + 1
	}
	for _, label := range []string{aSize, anEvery} {
		if g.p.next[label] != nil {
			return label, g.at + 1
		}
	}
	return "", g.at + 1
}

// number returns the number of the next token.
func (g *going) number() int64 {
	n, _ := strconv.ParseInt(g.l[g.at].Text, 10, 64)
	return n
}

// query returns the query that the way says.
func (g *going) query() api.Query {
	q := api.Query{Late: 1, Window: api.Window{Size: g.size, Every: g.every}}
	q.Agg = uint8(1 + slices.Index([]string{"count", "sum", "min", "max"}, g.way[1]))
	from, window := slices.Index(g.way, "from"), slices.Index(g.way, "window")
	for _, word := range g.way[from+1 : window] {
		switch word {
		case "a", "b", "c", "d":
			q.Sources = append(q.Sources, int(word[0]-'a'))
		case "join":
			q.Join = true
		}
	}
	q.Window.Kind = uint8(1 + slices.Index([]string{"tumble", "slide", "session"}, g.way[window+1]))
	q.ByKey = slices.Contains(g.way, "key")
	if slices.Contains(g.way, "side") {
		q.Late = 2
	}
	if g.way[1] != "count" {
		q.Arg = g.exprs[0]
	}
	if slices.Contains(g.way, "where") {
		q.Where = g.exprs[len(g.exprs)-1]
	}
	return q
}

// The grammar as patterns for the texts of tokens, each with a blank behind it, where "n" is a number and "p" an expression in brackets.
const (
	shiftPattern   = `(- )*[ktvnp] ((<<|>>|[+]|-|[*]) (- )*[ktvnp] )*`
	comparePattern = `(not )*` + shiftPattern + `((<|<=|>|>=|=|!=) ` + shiftPattern + `)?`
	exprPattern    = comparePattern + `((and|or) ` + comparePattern + `)*`
	aggPattern     = `(count [(] [*] [)] |(sum|min|max) p )`
	slidePattern   = `(tumble n |slide n every n |session n )`
	tailPattern    = `(by key )?(late (drop|side) )?`
	unionPattern   = `[abcd] (union [abcd] )*(where ` + exprPattern + `)?window ` + slidePattern
	joinPattern    = `[abcd] join [abcd] (where ` + exprPattern + `)?window tumble n `
)

var (
	bracketed = regexp.MustCompile(`[(] ` + exprPattern + `[)] `)
	whole     = regexp.MustCompile(`^select ` + aggPattern + `from (` + unionPattern + `|` + joinPattern + `)` + tailPattern + `$`)
	digits    = regexp.MustCompile(`\b[0-9]+ `)
)

// isQuery reports whether the texts of tokens are those of a query, but for its numbers, and for expressions that are too large.
func isQuery(texts []string) bool {
	s := digits.ReplaceAllString(strings.Join(texts, " ")+" ", "n ")
	for {
		shorter := bracketed.ReplaceAllString(s, "p ")
		if shorter == s {
			break
		}
		s = shorter
	}
	return whole.MatchString(s) && !namesTwice(texts)
}

// namesTwice reports whether a name stands twice in front of the condition and the window.
func namesTwice(texts []string) bool {
	seen := map[string]bool{}
	for _, s := range texts[slices.Index(texts, "from"):] {
		switch s {
		case "where", "window":
			return false
		case "a", "b", "c", "d":
			if seen[s] {
				return true
			}
			seen[s] = true
		}
	}
	return false
}
