package scalar

import (
	"slices"

	"tactician/api"
	"tactician/rows"
	"tactician/value"
)

// operation is what a node does with the values of its Args.
type operation func(args []api.Value) api.Value

// Eval returns the value of e for a row with the columns cols.
func Eval(e api.Expr, cols []api.Col, row []api.Value) (api.Value, api.Errno) {
	if _, f := Kind(e, cols); f != api.OK {
		return api.Value{}, f
	}
	if rows.Check(cols, [][]api.Value{row}) != api.OK {
		return api.Value{}, api.ErrRows
	}
	return eval(e, row, operations(e)), api.OK
}

// eval takes an expression whose kinds have been checked, and a row that fits.
func eval(e api.Expr, row []api.Value, does map[api.Op]operation) api.Value {
	switch e.Op {
	case api.OCol:
		return row[e.N]
	case api.OLit:
		return e.Lit
	}
	args := each(e.Args, func(a api.Expr) api.Value { return eval(a, row, does) })
	if isStrict(e.Op) && slices.ContainsFunc(args, isNull) {
		return api.Value{}
	}
	return does[e.Op](args)
}

// isStrict tells whether an operation is null if one of its Args is.
func isStrict(op api.Op) bool {
	return op >= api.OAdd && op <= api.OGe || op == api.ONot
}

// operations has what each operation in e does. It has no others: to make them all would take longer than to evaluate an
// ordinary expression, and that is done for each row of a relation.
func operations(e api.Expr) map[api.Op]operation {
	does := map[api.Op]operation{}
	through(e, func(x api.Expr) {
		if len(x.Args) > 0 {
			does[x.Op] = operationOf(x.Op)
		}
	})
	return does
}

// operationOf returns what op does with values that fit, and are not null if op is strict.
func operationOf(op api.Op) operation {
	switch op {
	case api.OAdd:
		return calculates(func(a, b int64) int64 { return a + b })
	case api.OSub:
		return calculates(func(a, b int64) int64 { return a - b })
	case api.OMul:
		return calculates(func(a, b int64) int64 { return a * b })
	case api.ODiv:
		return divides(func(a, b int64) int64 { return a / b })
	case api.OMod:
		return divides(func(a, b int64) int64 { return a % b })
	case api.ONeg:
		return func(l []api.Value) api.Value { return number(-l[0].Int) }
	case api.OConcat:
		return func(l []api.Value) api.Value { return text(l[0].Text + l[1].Text) }
	case api.OLength:
		return func(l []api.Value) api.Value { return number(int64(len(l[0].Text))) }
	case api.OEq, api.OSame:
		return compares(func(n int) bool { return n == 0 })
	case api.ONe:
		return compares(func(n int) bool { return n != 0 })
	case api.OLt:
		return compares(func(n int) bool { return n < 0 })
	case api.OLe:
		return compares(func(n int) bool { return n <= 0 })
	case api.OGt:
		return compares(func(n int) bool { return n > 0 })
	case api.OGe:
		return compares(func(n int) bool { return n >= 0 })
	case api.OAnd:
		return holds(value.And)
	case api.OOr:
		return holds(value.Or)
	case api.ONot:
		return func(l []api.Value) api.Value { return truth(l[0] == truth(false)) }
	case api.OIsNull:
		return func(l []api.Value) api.Value { return truth(isNull(l[0])) }
	case api.OIsTrue:
		return func(l []api.Value) api.Value { return truth(l[0] == truth(true)) }
	case api.OCase:
		return chosen
	}
	return firstOf
}

func calculates(result func(a, b int64) int64) operation {
	return func(l []api.Value) api.Value { return number(result(l[0].Int, l[1].Int)) }
}

func divides(result func(a, b int64) int64) operation {
	return func(l []api.Value) api.Value {
		if l[1].Int == 0 {
			return api.Value{}
		}
		return number(result(l[0].Int, l[1].Int))
	}
}

func compares(is func(n int) bool) operation {
	return func(l []api.Value) api.Value {
		n, _ := value.Compare(l[0], l[1])
		return truth(is(n))
	}
}

func holds(all func([]api.Value) (api.Value, api.Errno)) operation {
	return func(l []api.Value) api.Value {
		v, _ := all(l)
		return v
	}
}

// chosen is what OCase does.
func chosen(l []api.Value) api.Value {
	conditions, values := parted(l)
	at := slices.Index(conditions, truth(true))
	if at < 0 {
		at = len(conditions)
	}
	return values[at]
}

// firstOf is what OCoalesce does.
func firstOf(l []api.Value) api.Value {
	for _, v := range l {
		if !isNull(v) {
			return v
		}
	}
	return api.Value{}
}

func isNull(v api.Value) bool {
	return v.Kind == api.Null
}

func number(n int64) api.Value {
	return api.Value{Kind: api.Int, Int: n}
}

func truth(is bool) api.Value {
	if is {
		return api.Value{Kind: api.Bool, Int: 1}
	}
	return api.Value{Kind: api.Bool}
}

// text returns the text s, or what fits into one of it.
func text(s string) api.Value {
	return api.Value{Kind: api.Text, Text: s[:min(len(s), api.MaxText)]}
}
