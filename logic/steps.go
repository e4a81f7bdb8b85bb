package logic

import (
	"slices"

	"tactician/api"
	"tactician/scalar"
)

// opposites has, of each comparison, the one that is true where it is false.
var opposites = [...]api.Op{
	api.OEq: api.ONe, api.ONe: api.OEq, api.OLt: api.OGe, api.OLe: api.OGt, api.OGt: api.OLe, api.OGe: api.OLt,
}

// mirrors has, of each comparison, the one that says the same of exchanged Args.
var mirrors = [...]api.Op{
	api.OEq: api.OEq, api.ONe: api.ONe, api.OLt: api.OGt, api.OLe: api.OGe, api.OGt: api.OLt, api.OGe: api.OLe,
}

// neutrals has the values that change nothing, as the second Arg of an operation, and also as the first one if either.
var neutrals = [...]struct {
	op     api.Op
	value  api.Value
	either bool
}{
	{api.OAdd, api.Value{Kind: api.Int}, true},
	{api.OSub, api.Value{Kind: api.Int}, false},
	{api.OMul, api.Value{Kind: api.Int, Int: 1}, true},
	{api.ODiv, api.Value{Kind: api.Int, Int: 1}, false},
	{api.OConcat, api.Value{Kind: api.Text}, true},
}

func isComparison(op api.Op) bool {
	return op >= api.OEq && op <= api.OGe
}

func isLiteral(e api.Expr) bool {
	return e.Op == api.OLit
}

// computed is step 1: a node of literals.
func computed(e api.Expr, kind func(api.Expr) api.Col) (api.Expr, bool) {
	if len(e.Args) == 0 || slices.ContainsFunc(e.Args, func(a api.Expr) bool { return !isLiteral(a) }) {
		return api.Expr{}, false
	}
	v, _ := scalar.Eval(e, []api.Col{{Kind: api.Int, Null: true}}, make([]api.Value, 1)) // any columns do
	return api.Expr{Op: api.OLit, Kind: kind(e).Kind, Lit: v}, true
}

// gathers returns step 2 for OAnd, to which true adds nothing, or for OOr, to which false adds nothing.
func gathers(op api.Op, nothing bool) step {
	return func(e api.Expr) (api.Expr, bool) {
		if e.Op != op {
			return api.Expr{}, false
		}
		for i, a := range e.Args {
			if a.Op == op && len(e.Args)-1+len(a.Args) <= api.MaxCols {
				return node(op, slices.Concat(e.Args[:i], a.Args, e.Args[i+1:])...), true
			}
		}
		for i, a := range e.Args {
			again := slices.ContainsFunc(e.Args[:i], func(b api.Expr) bool { return equal(a, b) })
			if again || isLit(a, truth(nothing)) {
				return without(e, i, 1), true
			}
		}
		all := literal(truth(!nothing))
		return all, slices.ContainsFunc(e.Args, func(a api.Expr) bool { return equal(a, all) })
	}
}

// without returns e without the n Args from the place at on, or the only Arg that is left.
func without(e api.Expr, at, n int) api.Expr {
	args := slices.Concat(e.Args[:at], e.Args[at+n:])
	if len(args) == 1 {
		return args[0]
	}
	return node(e.Op, args...)
}

// denied is step 3: an ONot goes down.
func denied(e api.Expr) (api.Expr, bool) {
	if e.Op != api.ONot {
		return api.Expr{}, false
	}
	a := e.Args[0]
	switch {
	case a.Op == api.ONot:
		return a.Args[0], true
	case isComparison(a.Op):
		return node(opposites[a.Op], a.Args...), true
	case a.Op == api.OAnd:
		return node(api.OOr, denials(a.Args)...), true
	case a.Op == api.OOr:
		return node(api.OAnd, denials(a.Args)...), true
	}
	return api.Expr{}, false
}

func denials(l []api.Expr) []api.Expr {
	out := make([]api.Expr, len(l))
	for i, x := range l {
		out[i] = node(api.ONot, x)
	}
	return out
}

// nullByArg is step 4: an operation of a null.
func nullByArg(e api.Expr, kind func(api.Expr) api.Col) (api.Expr, bool) {
	if e.Op < api.OAdd || e.Op > api.OGe || indexNull(e.Args) < 0 {
		return api.Expr{}, false
	}
	return nullOf(kind(e).Kind), true
}

// indexNull returns the place of the first literal null, or -1.
func indexNull(l []api.Expr) int {
	return slices.IndexFunc(l, func(x api.Expr) bool { return isLit(x, api.Value{}) })
}

// neutral is step 5: an operation that changes nothing, or of which 0 leaves nothing.
func neutral(e api.Expr, mayBeNull func(api.Expr) bool) (api.Expr, bool) {
	for _, n := range neutrals {
		switch {
		case e.Op != n.op:
		case isLit(e.Args[1], n.value):
			return e.Args[0], true
		case n.either && isLit(e.Args[0], n.value):
			return e.Args[1], true
		}
	}
	zero := api.Value{Kind: api.Int}
	if e.Op != api.OMul || !slices.ContainsFunc(e.Args, func(a api.Expr) bool { return isLit(a, zero) }) {
		return api.Expr{}, false
	}
	return literal(zero), !slices.ContainsFunc(e.Args, mayBeNull)
}

// turned is step 6: in a comparison a literal comes second.
func turned(e api.Expr) (api.Expr, bool) {
	if !isComparison(e.Op) || !isLiteral(e.Args[0]) || isLiteral(e.Args[1]) {
		return api.Expr{}, false
	}
	return node(mirrors[e.Op], e.Args[1], e.Args[0]), true
}

// comparedToTruth is step 7: what is equal to true or to false.
func comparedToTruth(e api.Expr) (api.Expr, bool) {
	switch {
	case e.Op != api.OEq:
	case isLit(e.Args[1], truth(true)):
		return e.Args[0], true
	case isLit(e.Args[1], truth(false)):
		return node(api.ONot, e.Args[0]), true
	}
	return api.Expr{}, false
}

// comparedToItself is step 8.
func comparedToItself(e api.Expr, mayBeNull func(api.Expr) bool) (api.Expr, bool) {
	if !isComparison(e.Op) || !equal(e.Args[0], e.Args[1]) || mayBeNull(e.Args[0]) {
		return api.Expr{}, false
	}
	return literal(truth(e.Op == api.OEq || e.Op == api.OLe || e.Op == api.OGe)), true
}

// neverNull is step 9: OIsNull and OIsTrue of what may not be null.
func neverNull(e api.Expr, mayBeNull func(api.Expr) bool) (api.Expr, bool) {
	if e.Op != api.OIsNull && e.Op != api.OIsTrue || mayBeNull(e.Args[0]) {
		return api.Expr{}, false
	}
	if e.Op == api.OIsNull {
		return literal(truth(false)), true
	}
	return e.Args[0], true
}

// same is step 10: OSame.
func same(e api.Expr, mayBeNull func(api.Expr) bool) (api.Expr, bool) {
	if e.Op != api.OSame {
		return api.Expr{}, false
	}
	if equal(e.Args[0], e.Args[1]) {
		return literal(truth(true)), true
	}
	if i := indexNull(e.Args); i >= 0 {
		return node(api.OIsNull, e.Args[1-i]), true
	}
	return node(api.OEq, e.Args...), !slices.ContainsFunc(e.Args, mayBeNull)
}

// chosen is step 11: OCase.
func chosen(e api.Expr) (api.Expr, bool) {
	if e.Op != api.OCase {
		return api.Expr{}, false
	}
	last := len(e.Args) - 1
	for i := 0; i < last; i += 2 {
		switch {
		case !isLiteral(e.Args[i]):
		case !isLit(e.Args[i], truth(true)):
			return without(e, i, 2), true
		case i == 0:
			return e.Args[1], true
		default:
			return node(api.OCase, append(slices.Clone(e.Args[:i]), e.Args[i+1])...), true
		}
	}
	for i := 1; i < last; i += 2 {
		if !equal(e.Args[i], e.Args[last]) {
			return api.Expr{}, false
		}
	}
	return e.Args[last], true
}

// coalesced is step 12: OCoalesce.
func coalesced(e api.Expr, mayBeNull func(api.Expr) bool) (api.Expr, bool) {
	if e.Op != api.OCoalesce {
		return api.Expr{}, false
	}
	if i := indexNull(e.Args); i >= 0 {
		return without(e, i, 1), true
	}
	for i, a := range e.Args[:len(e.Args)-1] {
		if !mayBeNull(a) {
			return without(e, i+1, len(e.Args)-i-1), true
		}
	}
	return api.Expr{}, false
}
