package algebra

import (
	"slices"
	"strconv"
	"strings"

	"tactician/api"
	"tactician/rows"
	"tactician/scalar"
)

// parser has what of a string is still to be read, and how many nodes are around that.
type parser struct {
	rest  string
	depth int
}

// noRel is the panic by which the parser gives up. What is nearly right it lets through: that is written in another way than
// it was read.
type noRel struct{}

func (p *parser) rel() api.Rel {
	p.enter()
	defer p.leave()
	op := api.RelOp(index(relWords(), p.upTo("(")))
	p.need("(")
	s, _ := shapeOf(op)
	r := s.read(p)
	r.Op = op
	if s.most > 0 {
		r.Ins = list(p, p.rel)
	} else {
		p.need(")")
	}
	return r
}

func (p *parser) expr() api.Expr {
	p.enter()
	defer p.leave()
	word := p.upTo("(),")
	if !p.eat("(") {
		return parsedExpr(word)
	}
	if words := queryWords(); slices.Contains(words[api.OExists:], word) {
		return p.query(api.Op(index(words, word)))
	}
	args := list(p, p.expr)
	e := parsedExpr(node(word, dollars(len(args))))
	e.Args = args
	return e
}

// query reads what is in the brackets of an OExists, OIn or OOne.
func (p *parser) query(op api.Op) api.Expr {
	n := p.number()
	p.need(", ")
	args := beforeRel(p, p.expr)
	return api.Expr{Op: op, N: n, Args: args, Rels: list(p, p.rel)}
}

func (p *parser) scan() api.Rel {
	return api.Rel{Name: p.upTo(")")}
}

func (p *parser) values() api.Rel {
	cols := p.cols()
	var lines strings.Builder
	for strings.HasPrefix(p.rest, "(") {
		lines.WriteString(p.upTo(")") + ")\n")
		p.need(")")
		p.eat(" ")
	}
	l, e := rows.Parse(lines.String())
	if e != api.OK {
		panic(noRel{})
	}
	return api.Rel{Cols: cols, Rows: l}
}

// exprs is for RFilter and RMap.
func (p *parser) exprs() api.Rel {
	return api.Rel{Exprs: beforeRel(p, p.expr)}
}

func (p *parser) join() api.Rel {
	how := p.how()
	return api.Rel{Join: how, Exprs: beforeRel(p, p.expr)}
}

func (p *parser) apply() api.Rel {
	n := p.number()
	p.need(", ")
	return api.Rel{N: n, Join: p.how()}
}

func (p *parser) group() api.Rel {
	by := p.places()
	p.need(", ")
	return api.Rel{Group: by, Calls: beforeRel(p, p.call)}
}

func (p *parser) union() api.Rel {
	return api.Rel{}
}

// set is for RBoth and RMinus.
func (p *parser) set() api.Rel {
	return api.Rel{All: p.eat("all, ")}
}

func (p *parser) sort() api.Rel {
	keys := each(p.bracketed(), readKey)
	p.need(", ")
	offset := p.number()
	p.need(", ")
	fetch := p.number()
	p.need(", ")
	return api.Rel{Keys: keys, Offset: offset, Fetch: fetch}
}

func (p *parser) leaf() api.Rel {
	n := p.number()
	p.need("; ")
	cols := p.cols()
	var sets [][]int
	for strings.HasPrefix(p.rest, "[") {
		sets = append(sets, p.places())
		p.eat(" ")
	}
	return api.Rel{N: n, Cols: cols, Sets: sets}
}

// how reads the word of a join, and the comma behind it.
func (p *parser) how() api.Join {
	how := index(joinWords(), p.upTo(","))
	p.need(", ")
	return api.Join(how)
}

func (p *parser) call() api.Call {
	call := api.Call{Fn: api.Fn(index(callWords(), p.upTo("(,")))}
	if p.eat("(") {
		call.Distinct = p.eat("distinct ")
		p.need("$")
		call.Col = p.number()
		p.need(")")
	}
	return call
}

// cols reads columns, and the semicolon behind them.
func (p *parser) cols() []api.Col {
	words := strings.Fields(p.upTo(";"))
	p.need("; ")
	return each(words, readCol)
}

func (p *parser) places() []int {
	return each(p.bracketed(), number)
}

func (p *parser) number() int {
	return number(p.upTo(",;)"))
}

// bracketed reads words in square brackets.
func (p *parser) bracketed() []string {
	p.need("[")
	words := strings.Fields(p.upTo("]"))
	p.need("]")
	return words
}

// enter counts a node that begins; leave counts it back.
func (p *parser) enter() {
	p.depth++
	if p.depth > api.MaxDepth {
		panic(noRel{})
	}
}

func (p *parser) leave() {
	p.depth--
}

// eat goes behind s, if that comes next.
func (p *parser) eat(s string) bool {
	rest, ok := strings.CutPrefix(p.rest, s)
	p.rest = rest
	return ok
}

func (p *parser) need(s string) {
	if !p.eat(s) {
		panic(noRel{})
	}
}

// upTo goes to the first of marks that is outside of a text, or to the end, and returns what was before it.
func (p *parser) upTo(marks string) string {
	n := end(p.rest, marks)
	s := p.rest[:n]
	p.rest = p.rest[n:]
	return s
}

// atRel tells whether a relation comes next, and no expression or call.
func (p *parser) atRel() bool {
	return slices.Contains(relWords()[api.RScan:], p.rest[:end(p.rest, "(),")])
}

// beforeRel reads items with a comma behind each, up to the next relation.
func beforeRel[T any](p *parser, item func() T) []T {
	var out []T
	for !p.atRel() {
		out = append(out, item())
		p.need(", ")
	}
	return out
}

// list reads items with commas between, up to the bracket behind the last one.
func list[T any](p *parser, item func() T) []T {
	out := []T{item()}
	for !p.eat(")") {
		p.need(", ")
		out = append(out, item())
	}
	return out
}

// end is where the first of marks is in s that is outside of a text. A quote in a text is written twice, so that in and out
// are as if one text ended there and another one began.
func end(s, marks string) int {
	inside := false
	for i := range len(s) {
		if s[i] == '\'' {
			inside = !inside
		}
		if !inside && strings.IndexByte(marks, s[i]) >= 0 {
			return i
		}
	}
	return len(s)
}

// dollars returns the strings of the columns from 0 to n - 1.
func dollars(n int) []string {
	out := make([]string, n)
	for i := range out {
		out[i] = "$" + strconv.Itoa(i)
	}
	return out
}

// parsedExpr returns the expression whose string s is, and which has no relation in it.
func parsedExpr(s string) api.Expr {
	e, f := scalar.Parse(s)
	if f != api.OK {
		panic(noRel{})
	}
	return e
}

// index is the place of a word in words, where numbers without a word have an empty one.
func index(words []string, word string) int {
	at := slices.Index(words, word)
	if at < 0 || word == "" {
		panic(noRel{})
	}
	return at
}

func readCol(s string) api.Col {
	word, null := strings.CutSuffix(s, "?")
	return api.Col{Kind: api.Kind(index(kindWords(), word)), Null: null}
}

func readKey(s string) api.Key {
	digits, desc := strings.CutSuffix(s, "-")
	return api.Key{Col: number(digits), Desc: desc}
}

// number returns the number whose string s is, if there is one; otherwise any, since that is written in another way.
func number(s string) int {
	n, _ := strconv.Atoi(s)
	return n
}
