package scalar

import (
	"slices"

	"tactician/api"
	"tactician/rows"
)

// Kind returns the kind of e on rows with the columns cols, and whether it may be null.
func Kind(e api.Expr, cols []api.Col) (api.Col, api.Errno) {
	if rows.CheckCols(cols) != api.OK {
		return api.Col{}, api.ErrRows
	}
	if f := check(e); f != api.OK {
		return api.Col{}, f
	}
	c, ok := kind(e, cols)
	if !ok {
		return api.Col{}, api.ErrKinds
	}
	return c, api.OK
}

// kind returns false, too, if the kinds do not fit.
func kind(e api.Expr, cols []api.Col) (api.Col, bool) {
	switch e.Op {
	case api.OCol:
		if e.N >= len(cols) {
			return api.Col{}, false
		}
		return cols[e.N], true
	case api.OOuter:
		return api.Col{}, false
	case api.OLit:
		return api.Col{Kind: e.Kind, Null: e.Lit.Kind == api.Null}, true
	}
	args := make([]api.Col, len(e.Args))
	for i, a := range e.Args {
		c, ok := kind(a, cols)
		if !ok {
			return api.Col{}, false
		}
		args[i] = c
	}
	return kindOf(e.Op, args)
}

// kindOf returns the kind of a node by those of its Args; false if they do not fit.
func kindOf(op api.Op, args []api.Col) (api.Col, bool) {
	if op == api.OCase {
		conditions, values := parted(args)
		if !allAre(api.Bool, conditions) {
			return api.Col{}, false
		}
		args = values
	}
	of, is := shapes[op].of, shapes[op].is
	if of == common {
		of = args[0].Kind
	}
	if is == common {
		is = of
	}
	if !allAre(of, args) {
		return api.Col{}, false
	}
	return api.Col{Kind: is, Null: mayBeNull(op, args)}, true
}

func allAre(kind api.Kind, cols []api.Col) bool {
	return !slices.ContainsFunc(cols, func(c api.Col) bool { return c.Kind != kind })
}

// mayBeNull takes the kinds of the Args; of an OCase, those of its values.
func mayBeNull(op api.Op, args []api.Col) bool {
	switch op {
	case api.ODiv, api.OMod:
		return true
	case api.OSame, api.OIsNull, api.OIsTrue:
		return false
	case api.OCoalesce:
		return !slices.ContainsFunc(args, func(c api.Col) bool { return !c.Null })
	}
	return slices.ContainsFunc(args, func(c api.Col) bool { return c.Null })
}
