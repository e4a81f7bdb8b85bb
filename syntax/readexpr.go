package syntax

import (
	"strings"

	"tactician/token"
)

func (p *parser) exprs() []Node {
	return list(p, p.expr)
}

func (p *parser) expr() Node {
	return p.binaries(exprLevel, p.conj)
}

func (p *parser) conj() Node {
	return p.binaries(conjLevel, p.neg)
}

func (p *parser) neg() Node {
	return p.unaries("not", p.test)
}

func (p *parser) sum() Node {
	return p.binaries(sumLevel, p.term)
}

func (p *parser) term() Node {
	return p.binaries(termLevel, p.sign)
}

func (p *parser) sign() Node {
	return p.unaries("-", p.prim)
}

// binaries reads a row of the operators of a level.
func (p *parser) binaries(level int, operand func() Node) Node {
	return row(func() (string, bool) { return p.operator(level) }, operand, binary)
}

func binary(op string, left, right Node) Node {
	return Node{Op: Binary, Text: op, Args: []Node{left, right}}
}

// unaries reads an operand with any number of an operator before it.
func (p *parser) unaries(op string, operand func() Node) Node {
	if !p.eat(op) {
		return operand()
	}
	arg := nested(p, func() Node { return p.unaries(op, operand) })
	return Node{Op: Unary, Text: op, Args: []Node{arg}}
}

func (p *parser) test() Node {
	first := p.sum()
	if op, ok := p.operator(testLevel); ok {
		return binary(op, first, p.sum())
	}
	if p.eat("is") {
		return p.is(first, p.eat("not"))
	}
	not := p.eat("not")
	switch {
	case p.eat("in"):
		return p.in(first, not)
	case p.eat("between"):
		return p.between(first, not)
	}
	must(!not)
	return first
}

// is reads what is behind is, and behind the not of that.
func (p *parser) is(first Node, not bool) Node {
	switch {
	case p.eat("null"):
		return Node{Op: IsNull, Not: not, Args: []Node{first}}
	case p.eat("true"):
		return Node{Op: IsTrue, Not: not, Args: []Node{first}}
	}
	p.need("distinct", "from")
	return Node{Op: Differs, Not: not, Args: []Node{first, p.sum()}}
}

func (p *parser) in(first Node, not bool) Node {
	out := Node{Op: In, Not: not, Args: []Node{first}}
	if p.atQuery() {
		out.Query = []Query{brackets(p, p.query)}
	} else {
		out.Args = append(out.Args, brackets(p, p.exprs)...)
	}
	return out
}

func (p *parser) between(first Node, not bool) Node {
	low := p.sum()
	p.need("and")
	high := p.sum()
	return Node{Op: Between, Not: not, Args: []Node{first, low, high}}
}

// atQuery tells whether a query in brackets comes next, where it may be expressions as well.
func (p *parser) atQuery() bool {
	return p.at("(", bodyWords[Select]) || p.at("(", bodyWords[Values])
}

// beginnings has what reads a prim, by the token with which it begins: a word or sign by its text, others by their kind alone.
func (p *parser) beginnings() map[token.Token]func() Node {
	return map[token.Token]func() Node{
		{Kind: token.Number}:               p.num,
		{Kind: token.Text}:                 p.str,
		{Kind: token.Name}:                 p.named,
		{Kind: token.Word, Text: "true"}:   p.constant,
		{Kind: token.Word, Text: "false"}:  p.constant,
		{Kind: token.Word, Text: "null"}:   p.constant,
		{Kind: token.Word, Text: "exists"}: p.exists,
		{Kind: token.Word, Text: "case"}:   p.cases,
		{Kind: token.Sign, Text: "("}:      p.bracket,
	}
}

func (p *parser) prim() Node {
	t := p.next()
	begin := token.Token{Kind: t.Kind}
	if t.Kind == token.Word || t.Kind == token.Sign {
		begin.Text = t.Text
	}
	read, ok := p.begins[begin]
	must(ok)
	return read()
}

func (p *parser) num() Node {
	return Node{Op: Num, Number: p.number()}
}

func (p *parser) str() Node {
	text := p.take(token.Text)
	return Node{Op: Str, Text: strings.ReplaceAll(text[1:len(text)-1], "''", "'")}
}

func (p *parser) constant() Node {
	switch p.take(token.Word) {
	case "true":
		return Node{Op: True}
	case "false":
		return Node{Op: False}
	}
	return Node{Op: Nothing}
}

func (p *parser) exists() Node {
	p.need("exists")
	return Node{Op: Exists, Query: []Query{brackets(p, p.query)}}
}

func (p *parser) cases() Node {
	p.need("case")
	out := Node{Op: Case, Args: nested(p, p.whens)}
	p.need("end")
	return out
}

// whens reads the conditions and values of a case.
func (p *parser) whens() []Node {
	var out []Node
	for p.eat("when") {
		out = append(out, p.expr())
		p.need("then")
		out = append(out, p.expr())
	}
	must(len(out) > 0)
	if p.eat("else") {
		out = append(out, p.expr())
	}
	return out
}

// bracket reads what begins with a bracket: a query, an expression, or a tuple.
func (p *parser) bracket() Node {
	if p.atQuery() {
		return Node{Op: Scalar, Query: []Query{brackets(p, p.query)}}
	}
	l := brackets(p, p.exprs)
	if len(l) == 1 {
		return l[0]
	}
	return Node{Op: Tuple, Args: l}
}

// named reads what begins with a name: a column or a call.
func (p *parser) named() Node {
	name := p.name()
	switch {
	case p.eat("."):
		return Node{Op: Of, Text: name + "." + p.name()}
	case p.eat("(", "*", ")"):
		return Node{Op: CountAll, Text: name}
	case p.at("("):
		return brackets(p, func() Node {
			out := Node{Op: Call, Text: name, Distinct: p.eat("distinct")}
			out.Args = p.exprs()
			return out
		})
	}
	return Node{Op: Column, Text: name}
}
