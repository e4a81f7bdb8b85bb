package meaning

import (
	"tactician/api"
	"tactician/scalar"
	"tactician/value"
)

// part is what has a value within a row.
type part interface {
	value(m *maker, on *outer) api.Value
}

// column is an OCol, or an OOuter whose row is up rows further out.
type column struct{ up, at int }

type exists struct{ x relation }

type in struct {
	args []expression
	x    relation
}

type one struct{ x relation }

// expression is one of a relation, as package scalar takes it: form is plain, and is on the values of parts, which have the
// kinds of cols. (Parts may be expressions: one may be on more columns than a row of package scalar may have.)
type expression struct {
	form  api.Expr
	parts []part
	cols  []api.Col
}

// expr returns e, which is on rows of which on is known.
func (c *builder) expr(e api.Expr, on *scope) expression {
	var out expression
	if e.Op == api.OLit {
		out.add(column{}, on.kinds[0]) // as package scalar takes no rows without columns
		out.form = e
	} else if p, kind := c.part(e, on); p != nil {
		out.form = out.add(p, kind)
	} else {
		out = joined(e, each(e.Args, func(a api.Expr) expression { return c.expr(a, on) }))
	}
	return out
}

// part returns e, and its kind; nil if it has nothing that package scalar cannot have.
func (c *builder) part(e api.Expr, on *scope) (part, api.Kind) {
	switch e.Op {
	case api.OCol:
		return column{0, e.N}, on.kinds[e.N]
	case api.OOuter:
		up, row := 1, on.around
		for row.n != e.N {
			up, row = up+1, row.around
		}
		return column{up, e.M}, row.kinds[e.M]
	case api.OExists:
		return exists{c.query(e, on)}, api.Bool
	case api.OIn:
		args := each(e.Args, func(a api.Expr) expression { return c.expr(a, on) })
		return in{args, c.query(e, on)}, api.Bool
	case api.OOne:
		x := c.query(e, on)
		return one{x}, kinds(x)[0]
	}
	return nil, api.Null
}

// query returns the relation of an OExists, OIn or OOne.
func (c *builder) query(e api.Expr, on *scope) relation {
	return c.rel(e.Rels[0], &scope{e.N, on.kinds, on.around})
}

// joined returns e, whose Args are args: on the parts of all of these, or on themselves, if the parts are too many.
func joined(e api.Expr, args []expression) expression {
	var all, apart expression
	all.form, apart.form = e, e
	all.form.Args, apart.form.Args = make([]api.Expr, len(args)), make([]api.Expr, len(args))
	for i, a := range args {
		to := make([]int, len(a.parts))
		for j, p := range a.parts {
			to[j] = all.add(p, a.cols[j].Kind).N
		}
		all.form.Args[i], _ = scalar.Move(a.form, to)
		apart.form.Args[i] = apart.add(a, a.kind())
	}
	if len(all.parts) > api.MaxCols {
		return apart
	}
	return all
}

// add returns the column for a part of a kind, which is a new one, unless another part is the same column.
func (x *expression) add(p part, kind api.Kind) api.Expr {
	if c, ok := p.(column); ok {
		for i, other := range x.parts {
			if d, ok := other.(column); ok && d == c {
				return api.Expr{Op: api.OCol, N: i}
			}
		}
	}
	x.parts = append(x.parts, p)
	x.cols = append(x.cols, api.Col{Kind: kind, Null: true})
	return api.Expr{Op: api.OCol, N: len(x.parts) - 1}
}

func (x expression) kind() api.Kind {
	c, _ := scalar.Kind(x.form, x.cols)
	return c.Kind
}

func (x expression) value(m *maker, on *outer) api.Value {
	v, _ := scalar.Eval(x.form, x.cols, values(x.parts, m, on))
	return v
}

func (x expression) holds(m *maker, on *outer) bool {
	return x.value(m, on) == truth(true)
}

// values returns those of l within a row.
func values[T part](l []T, m *maker, on *outer) []api.Value {
	return each(l, func(p T) api.Value { return p.value(m, on) })
}

func (c column) value(_ *maker, on *outer) api.Value {
	for range c.up {
		on = on.around
	}
	return on.row[c.at]
}

func (x exists) value(m *maker, on *outer) api.Value {
	return truth(len(m.list(x.x, on)) > 0)
}

func (x in) value(m *maker, on *outer) api.Value {
	args, l := values(x.args, m, on), m.list(x.x, on)
	m.spend(len(l))
	v, _ := value.Or(each(l, func(row []api.Value) api.Value { return areEqual(args, row) }))
	return v
}

func (x one) value(m *maker, on *outer) api.Value {
	return onlyValue(m.list(x.x, on), 0)
}

// areEqual returns whether all values of a and b, which are as many, are equal in the sense of OEq.
func areEqual(a, b []api.Value) api.Value {
	equal := make([]api.Value, len(a))
	for i := range a {
		if a[i].Kind != api.Null && b[i].Kind != api.Null {
			equal[i] = truth(a[i] == b[i])
		}
	}
	v, _ := value.And(equal)
	return v
}

func truth(is bool) api.Value {
	if is {
		return api.Value{Kind: api.Bool, Int: 1}
	}
	return api.Value{Kind: api.Bool}
}
