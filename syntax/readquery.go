package syntax

import "tactician/token"

func (p *parser) query() Query {
	out := Query{Body: p.body()}
	if p.eat("order", "by") {
		out.Keys = list(p, p.key)
	}
	out.Limit = p.cut("limit")
	out.Offset = p.cut("offset")
	return out
}

func (p *parser) key() Key {
	var out Key
	if p.next().Kind == token.Name {
		out.Name = p.name()
	} else {
		out.At = p.count()
		must(out.At > 0)
	}
	out.Desc = !p.eat("asc") && p.eat("desc")
	return out
}

// cut reads the number behind a word; -1 if the word does not come next.
func (p *parser) cut(word string) int {
	if !p.eat(word) {
		return -1
	}
	return p.count()
}

func (p *parser) body() Body {
	return row(p.setOperator(Union, Except), p.part, combined)
}

func (p *parser) part() Body {
	return row(p.setOperator(Intersect), p.simple, combined)
}

// setOperator reads one of these operators of bodies: a body that still has no operands.
func (p *parser) setOperator(ops ...int) func() (Body, bool) {
	return func() (Body, bool) {
		for _, op := range ops {
			if p.eat(bodyWords[op]) {
				return Body{Op: op, All: p.eat("all")}, true
			}
		}
		return Body{}, false
	}
}

// combined gives an operator of bodies its operands.
func combined(op Body, left, right Body) Body {
	op.Ins = []Query{{Body: left, Limit: -1, Offset: -1}, {Body: right, Limit: -1, Offset: -1}}
	return op
}

func (p *parser) simple() Body {
	switch {
	case p.eat("select"):
		return p.selected()
	case p.eat("values"):
		return Body{Op: Values, Rows: list(p, func() []Node { return brackets(p, p.exprs) })}
	}
	return Body{Op: Sub, Ins: []Query{brackets(p, p.query)}}
}

// selected reads what is behind select.
func (p *parser) selected() Body {
	out := Body{Op: Select, Distinct: p.eat("distinct")}
	out.Items = list(p, p.item)
	if p.eat("from") {
		out.From = list(p, p.source)
	}
	out.Where = p.condition("where")
	if p.eat("group", "by") {
		out.Group = p.exprs()
	}
	out.Having = p.condition("having")
	return out
}

// condition reads the expression behind a word; none if the word does not come next.
func (p *parser) condition(word string) []Node {
	if !p.eat(word) {
		return nil
	}
	return []Node{p.expr()}
}

func (p *parser) item() Item {
	if p.eat("*") {
		return Item{Star: true}
	}
	if t := p.next(); t.Kind == token.Name && p.eat(t.Text, ".", "*") {
		return Item{Star: true, Table: t.Text}
	}
	out := Item{Expr: []Node{p.expr()}}
	out.As = p.alias()
	return out
}

// alias reads a name with or without as before it, if one comes next.
func (p *parser) alias() string {
	if !p.eat("as") && p.next().Kind != token.Name {
		return ""
	}
	return p.name()
}

func (p *parser) source() Source {
	return row(p.join, p.table, p.joined)
}

// join reads what is between the inputs of a join, and returns its operation.
func (p *parser) join() (int, bool) {
	if p.eat("join") {
		return InnerJoin, true
	}
	for op := Cross; op <= FullJoin; op++ {
		if p.eat(joinWords[op]) {
			if op >= LeftJoin {
				p.eat("outer")
			}
			p.need("join")
			return op, true
		}
	}
	return 0, false
}

// joined gives a join its inputs, and reads what is behind them.
func (p *parser) joined(op int, left, right Source) Source {
	out := Source{Op: op, Ins: []Source{left, right}}
	if op != Cross {
		p.need("on")
		out.On = []Node{p.expr()}
	}
	return out
}

func (p *parser) table() Source {
	if p.next().Kind == token.Name {
		out := Source{Op: Named, Name: p.name()}
		out.As = p.alias()
		return out
	}
	out := Source{Op: Derived, Query: []Query{brackets(p, p.query)}}
	out.As = p.alias()
	must(out.As != "")
	return out
}
