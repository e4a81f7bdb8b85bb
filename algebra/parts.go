package algebra

import (
	"slices"

	"tactician/api"
	"tactician/rows"
)

// nodes returns all nodes of r: relations and expressions.
func nodes(r api.Rel) (rels []api.Rel, exprs []api.Expr) {
	var inRel func(api.Rel)
	var inExpr func(api.Expr)
	inRel = func(r api.Rel) {
		rels = append(rels, r)
		for _, e := range r.Exprs {
			inExpr(e)
		}
		for _, in := range r.Ins {
			inRel(in)
		}
	}
	inExpr = func(e api.Expr) {
		exprs = append(exprs, e)
		for _, a := range e.Args {
			inExpr(a)
		}
		for _, q := range e.Rels {
			inRel(q)
		}
	}
	inRel(r)
	return rels, exprs
}

// part returns the part of r at path, and the outer rows that it is within; false if there is no such part. It takes a
// relation that has the form within the outer rows around.
func part(b api.Base, r api.Rel, path []int, around *outer) (api.Rel, *outer, bool) {
	if len(path) == 0 {
		return r, around, true
	}
	at, rest := path[0], path[1:len(path):len(path)]
	if at < 0 || at >= len(r.Ins) {
		return api.Rel{}, nil, false
	}
	if isApply(r) && at == 1 {
		x, _ := columns(b, r.Ins[0], around)
		around = &outer{r.N, x, around}
	}
	return part(b, r.Ins[at], rest, around)
}

// replaced returns r with by in the place of the part at path, which is there. It shares memory with both.
func replaced(r api.Rel, path []int, by api.Rel) api.Rel {
	if len(path) == 0 {
		return by
	}
	at, rest := path[0], path[1:len(path):len(path)]
	r.Ins = slices.Clone(r.Ins)
	r.Ins[at] = replaced(r.Ins[at], rest, by)
	return r
}

// copied returns r in new memory.
func copied(r api.Rel) api.Rel {
	r.Cols = slices.Clone(r.Cols)
	r.Rows = each(r.Rows, slices.Clone[[]api.Value])
	r.Sets = each(r.Sets, slices.Clone[[]int])
	r.Exprs = each(r.Exprs, copiedExpr)
	r.Group = slices.Clone(r.Group)
	r.Calls = slices.Clone(r.Calls)
	r.Keys = slices.Clone(r.Keys)
	r.Ins = each(r.Ins, copied)
	return r
}

func copiedExpr(e api.Expr) api.Expr {
	e.Args = each(e.Args, copiedExpr)
	e.Rels = each(e.Rels, copied)
	return e
}

// same tells whether r and s, which have the form, are equal data.
func same(r, s api.Rel) bool {
	if r.Op != s.Op || r.Name != s.Name || r.N != s.N || r.Join != s.Join || r.All != s.All || r.Offset != s.Offset || r.Fetch != s.Fetch {
		return false
	}
	if !slices.Equal(r.Cols, s.Cols) || !slices.Equal(r.Group, s.Group) || !slices.Equal(r.Calls, s.Calls) || !slices.Equal(r.Keys, s.Keys) {
		return false
	}
	if !slices.EqualFunc(r.Rows, s.Rows, slices.Equal[[]api.Value]) || !slices.EqualFunc(r.Sets, s.Sets, slices.Equal[[]int]) {
		return false
	}
	return slices.EqualFunc(r.Exprs, s.Exprs, sameExpr) && slices.EqualFunc(r.Ins, s.Ins, same)
}

func sameExpr(a, b api.Expr) bool {
	if a.Op != b.Op || a.N != b.N || a.M != b.M || a.Kind != b.Kind || a.Lit != b.Lit {
		return false
	}
	return slices.EqualFunc(a.Args, b.Args, sameExpr) && slices.EqualFunc(a.Rels, b.Rels, same)
}

func isApply(r api.Rel) bool {
	return r.Op == api.RApply
}

// hasLongRows tells whether the rows of r alone are a string that is too large. (Package rows writes a byte more than they
// have here, and what is around them is longer.)
func hasLongRows(r api.Rel) bool {
	_, e := rows.String(r.Rows)
	return e != api.OK
}

// each returns what of returns for the elements of l.
func each[T, U any](l []T, of func(T) U) []U {
	if len(l) == 0 {
		return nil
	}
	out := make([]U, len(l))
	for i, x := range l {
		out[i] = of(x)
	}
	return out
}
