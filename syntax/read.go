package syntax

import (
	"strconv"

	"tactician/api"
	"tactician/token"
)

// parser has what is still to be read, and how often it is nested.
type parser struct {
	rest   []token.Token
	nested int
	begins map[token.Token]func() Node
}

// read returns the tree of a query.
func read(tokens []token.Token) Query {
	p := &parser{rest: tokens}
	p.begins = p.beginnings()
	out := p.query()
	p.eat(";")
	must(len(p.rest) == 0)
	return out
}

// next is the token that comes next; without Kind and Text at the end.
func (p *parser) next() token.Token {
	if len(p.rest) == 0 {
		return token.Token{}
	}
	return p.rest[0]
}

// take goes behind the next token, which must be of this kind, and returns its text.
func (p *parser) take(kind token.Kind) string {
	t := p.next()
	must(t.Kind == kind)
	p.rest = p.rest[1:]
	return t.Text
}

// at tells whether these words and signs come next. (No name, number or text looks like one of them.)
func (p *parser) at(texts ...string) bool {
	for i, text := range texts {
		if i >= len(p.rest) || p.rest[i].Text != text {
			return false
		}
	}
	return true
}

// eat goes behind these words and signs, if they come next.
func (p *parser) eat(texts ...string) bool {
	if !p.at(texts...) {
		return false
	}
	p.rest = p.rest[len(texts):]
	return true
}

// operator goes behind an operator of this level, if one comes next.
func (p *parser) operator(level int) (string, bool) {
	text := p.next().Text
	if operatorLevel(text) != level {
		return "", false
	}
	p.rest = p.rest[1:]
	return text, true
}

func (p *parser) need(texts ...string) {
	must(p.eat(texts...))
}

func (p *parser) name() string {
	return p.take(token.Name)
}

func (p *parser) number() int64 {
	n, err := strconv.ParseInt(p.take(token.Number), 10, 64)
	must(err == nil)
	return n
}

// count reads a number of rows, or of a column.
func (p *parser) count() int {
	n := p.number()
	must(n <= api.MaxRows)
	return int(n)
}

// nested reads what is nested once more than what is around it.
func nested[T any](p *parser, inner func() T) T {
	p.nested++
	must(p.nested <= api.MaxDepth)
	out := inner()
	p.nested--
	return out
}

func brackets[T any](p *parser, inner func() T) T {
	p.need("(")
	out := nested(p, inner)
	p.need(")")
	return out
}

func list[T any](p *parser, element func() T) []T {
	out := []T{element()}
	for p.eat(",") {
		must(len(out) < api.MaxCols)
		out = append(out, element())
	}
	return out
}

// row reads operands with operators between them, and joins them from the left.
func row[O, T any](operator func() (O, bool), operand func() T, join func(op O, left, right T) T) T {
	out := operand()
	for {
		op, ok := operator()
		if !ok {
			return out
		}
		right := operand()
		out = join(op, out, right)
	}
}
