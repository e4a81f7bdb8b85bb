package algebra

import (
	"slices"

	"tactician/api"
	"tactician/scalar"
)

// exprs returns the kinds of the expressions l of a node at a place, on rows with the columns on; false if one has not the
// form.
func (c *checker) exprs(l []api.Expr, on []api.Col, at place) ([]api.Col, bool) {
	var out []api.Col
	for _, e := range l {
		col, ok := c.expr(e, on, at.below())
		if !ok {
			return nil, false
		}
		out = append(out, col)
	}
	return out, true
}

// isCondition tells whether l, as in exprs, is one expression, and Bool.
func (c *checker) isCondition(l []api.Expr, on []api.Col, at place) bool {
	kinds, ok := c.exprs(l, on, at)
	return ok && len(kinds) == 1 && kinds[0].Kind == api.Bool
}

// expr returns the kind of e, on rows with the columns on; false if it has not the form. These may be more columns than a
// relation has: those of both inputs of an RJoin Semi or Anti.
func (c *checker) expr(e api.Expr, on []api.Col, at place) (api.Col, bool) {
	if !c.enters(at) {
		return api.Col{}, false
	}
	args, ok := c.exprs(e.Args, on, at)
	if !ok {
		return api.Col{}, false
	}
	if isQuery(e) {
		return c.query(e, args, on, at)
	}
	if len(args) > 0 {
		col, f := scalar.Kind(flat(e), args)
		return col, f == api.OK
	}
	if scalar.Check(e) != api.OK {
		return api.Col{}, false
	}
	switch e.Op {
	case api.OCol:
		return columnOf(on, e.N)
	case api.OOuter:
		return at.column(e.N, e.M)
	}
	return api.Col{Kind: e.Kind, Null: e.Lit.Kind == api.Null}, true // an OLit
}

// query is expr for an OExists, OIn or OOne whose Args have the kinds args.
func (c *checker) query(e api.Expr, args, on []api.Col, at place) (api.Col, bool) {
	if e.N < 1 || e.M != 0 || e.Kind != api.Null || e.Lit != (api.Value{}) || len(e.Rels) != 1 {
		return api.Col{}, false
	}
	cols, ok := c.rel(e.Rels[0], at.inside(e.N, on))
	if !ok {
		return api.Col{}, false
	}
	switch e.Op {
	case api.OExists:
		return api.Col{Kind: api.Bool}, len(args) == 0
	case api.OIn:
		null := slices.ContainsFunc(slices.Concat(args, cols), func(c api.Col) bool { return c.Null })
		return api.Col{Kind: api.Bool, Null: null}, areAlike(args, cols)
	}
	return api.Col{Kind: cols[0].Kind, Null: true}, len(args) == 0 && len(cols) == 1
}

// isQuery tells whether e is an OExists, OIn or OOne, which are not for package scalar.
func isQuery(e api.Expr) bool {
	return e.Op >= api.OExists && e.Op <= api.OOne
}

// flat returns e with the columns 0, 1, .. as its Args, in which form a node is examined and written by package scalar.
func flat(e api.Expr) api.Expr {
	args := make([]api.Expr, len(e.Args))
	for i := range args {
		args[i] = api.Expr{Op: api.OCol, N: i}
	}
	e.Args = args
	return e
}
