package logic

import (
	"slices"

	"tactician/api"
	"tactician/scalar"
)

// step returns what becomes of a node whose Args are simplified; false if it leaves the node as it is.
type step func(e api.Expr) (api.Expr, bool)

// simplifier simplifies by its steps, of which the first one that applies is taken.
type simplifier struct{ steps []step }

// simplifierOn returns the simplifier of expressions on the columns cols: the steps of the chapter, in their order.
func simplifierOn(cols []api.Col) simplifier {
	kind := func(e api.Expr) api.Col { return kindOf(e, cols) }
	mayBeNull := func(e api.Expr) bool { return kind(e).Null }
	return simplifier{[]step{
		func(e api.Expr) (api.Expr, bool) { return computed(e, kind) },
		gathers(api.OAnd, true),
		gathers(api.OOr, false),
		denied,
		func(e api.Expr) (api.Expr, bool) { return nullByArg(e, kind) },
		func(e api.Expr) (api.Expr, bool) { return neutral(e, mayBeNull) },
		turned,
		comparedToTruth,
		func(e api.Expr) (api.Expr, bool) { return comparedToItself(e, mayBeNull) },
		func(e api.Expr) (api.Expr, bool) { return neverNull(e, mayBeNull) },
		func(e api.Expr) (api.Expr, bool) { return same(e, mayBeNull) },
		chosen,
		func(e api.Expr) (api.Expr, bool) { return coalesced(e, mayBeNull) },
	}}
}

// simplified returns e, simplified, and whether that has changed it.
func (s simplifier) simplified(e api.Expr) (api.Expr, bool) {
	e, changed := withArgs(e, s.simplified)
	for _, apply := range s.steps {
		if next, ok := apply(e); ok {
			next, _ = s.simplified(next)
			return next, true
		}
	}
	return e, changed
}

// condition returns e as a condition, and whether that has changed it.
func (s simplifier) condition(e api.Expr) (api.Expr, bool) {
	e, changed := s.simplified(e)
	switch {
	case isLit(e, api.Value{}):
		return literal(truth(false)), true
	case e.Op == api.OIsTrue || e.Op == api.OCoalesce && len(e.Args) == 2 && isLit(e.Args[1], truth(false)):
		e, _ = s.condition(e.Args[0])
		return e, true
	case e.Op == api.OAnd || e.Op == api.OOr:
		if next, ok := withArgs(e, s.condition); ok {
			next, _ = s.condition(next)
			return next, true
		}
	}
	return e, changed
}

// withArgs returns e with what becomes of its Args, and whether one of them is changed.
func withArgs(e api.Expr, become func(api.Expr) (api.Expr, bool)) (api.Expr, bool) {
	var args []api.Expr
	for i, a := range e.Args {
		next, changed := become(a)
		if changed && args == nil {
			args = slices.Clone(e.Args)
		}
		if changed {
			args[i] = next
		}
	}
	if args == nil {
		return e, false
	}
	e.Args = args
	return e, true
}

// kindOf returns the kind of e on the columns cols. Columns stand for the Args of a node: on the way an expression may be
// larger than scalar takes it.
func kindOf(e api.Expr, cols []api.Col) api.Col {
	if len(e.Args) > 0 {
		args := make([]api.Col, len(e.Args))
		stand := make([]api.Expr, len(e.Args))
		for i, a := range e.Args {
			args[i] = kindOf(a, cols)
			stand[i] = api.Expr{Op: api.OCol, N: i}
		}
		e, cols = node(e.Op, stand...), args
	}
	c, _ := scalar.Kind(e, cols)
	return c
}

// equal tells whether a and b are equal data. (Same of scalar takes no expression that is too large.)
func equal(a, b api.Expr) bool {
	return a.Op == b.Op && a.N == b.N && a.M == b.M && a.Kind == b.Kind && a.Lit == b.Lit && slices.EqualFunc(a.Args, b.Args, equal)
}

func node(op api.Op, args ...api.Expr) api.Expr {
	return api.Expr{Op: op, Args: args}
}

func literal(v api.Value) api.Expr {
	return api.Expr{Op: api.OLit, Kind: v.Kind, Lit: v}
}

func nullOf(kind api.Kind) api.Expr {
	return api.Expr{Op: api.OLit, Kind: kind}
}

// isLit tells whether e is the literal v.
func isLit(e api.Expr, v api.Value) bool {
	return e.Op == api.OLit && e.Lit == v
}

func truth(is bool) api.Value {
	if is {
		return api.Value{Kind: api.Bool, Int: 1}
	}
	return api.Value{Kind: api.Bool}
}
