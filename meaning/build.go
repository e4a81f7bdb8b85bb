package meaning

import (
	"slices"

	"tactician/api"
	"tactician/base"
)

// builder turns relations that have the form into nodes.
type builder struct {
	base   api.Base
	data   api.Data
	leaves []api.Rel // the RLeafs that were met
}

// scope is what is known of an outer row before there is one: its number and the kinds of its columns.
type scope struct {
	n      int
	kinds  []api.Kind
	around *scope
}

// rel returns the node of r, which is within the rows around.
func (c *builder) rel(r api.Rel, around *scope) relation {
	switch r.Op {
	case api.RScan:
		return c.scan(r.Name)
	case api.RValues:
		return listed{kindsOf(r.Cols), r.Rows}
	case api.RLeaf:
		c.leaves = append(c.leaves, r)
		return leaf{kindsOf(r.Cols), r.N}
	case api.RApply:
		x := c.rel(r.Ins[0], around)
		y := c.rel(r.Ins[1], &scope{r.N, kinds(x), around})
		return apply{sidesOf(r.Join, x, y)}
	}
	ins := each(r.Ins, func(in api.Rel) relation { return c.rel(in, around) })
	on := &scope{kinds: slices.Concat(each(ins, kinds)...), around: around}
	exprs := each(r.Exprs, func(e api.Expr) expression { return c.expr(e, on) })
	switch r.Op {
	case api.RFilter:
		return filter{ins[0], exprs[0]}
	case api.RMap:
		return mapped{ins[0], exprs}
	case api.RJoin:
		return join{sidesOf(r.Join, ins[0], ins[1]), exprs[0]}
	case api.RGroup:
		return group{ins[0], r.Group, r.Calls}
	case api.RUnion:
		return union{ins}
	case api.RBoth:
		return both{ins[0], ins[1], r.All}
	case api.RMinus:
		return minus{ins[0], ins[1], r.All}
	}
	return sorted{ins[0], r.Keys, r.Offset, r.Fetch}
}

func (c *builder) scan(name string) relation {
	at, _ := base.Find(c.base, name)
	cols, _ := base.Cols(c.base, name)
	return listed{kindsOf(cols), c.data.Rows[at]}
}

func sidesOf(how api.Join, x, y relation) sides {
	return sides{x, y, how, nulls(kinds(x)), nulls(kinds(y))}
}

// nulls returns a row of nulls.
func nulls(kinds []api.Kind) []api.Value {
	return make([]api.Value, len(kinds))
}

// kinds returns the kinds of the columns of x.
func kinds(x relation) []api.Kind {
	switch x := x.(type) {
	case listed:
		return x.kinds
	case leaf:
		return x.kinds
	case filter:
		return kinds(x.x)
	case mapped:
		return each(x.to, expression.kind)
	case join:
		return x.kinds()
	case apply:
		return x.kinds()
	case group:
		return x.kinds()
	case union:
		return kinds(x.ins[0])
	case both:
		return kinds(x.x)
	case minus:
		return kinds(x.x)
	case sorted:
		return kinds(x.x)
	}
	return nil
}

func (s sides) kinds() []api.Kind {
	if s.how == api.Semi || s.how == api.Anti {
		return kinds(s.x)
	}
	return slices.Concat(kinds(s.x), kinds(s.y))
}

func (g group) kinds() []api.Kind {
	of := kinds(g.x)
	byKinds := each(g.by, func(at int) api.Kind { return of[at] })
	callKinds := each(g.calls, func(call api.Call) api.Kind {
		if call.Fn == api.Count || call.Fn == api.Some {
			return api.Int
		}
		return of[call.Col]
	})
	return slices.Concat(byKinds, callKinds)
}

func kindsOf(cols []api.Col) []api.Kind {
	return each(cols, func(c api.Col) api.Kind { return c.Kind })
}

// each returns what of returns for the elements of l.
func each[T, U any](l []T, of func(T) U) []U {
	out := make([]U, len(l))
	for i, x := range l {
		out[i] = of(x)
	}
	return out
}
