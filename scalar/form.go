package scalar

import (
	"tactician/api"
	"tactician/value"
)

// shape is what the nodes of an operation with Args have.
type shape struct {
	word        string
	least, most int      // how many Args
	of, is      api.Kind // the kind of each of them, and that of the node
}

// common is, in a shape, the kind that all Args have in common, whichever it is.
const common = api.Null

// shapes has the operations with Args. An OCase's kinds are those of its values.
var shapes = [...]shape{
	api.OAdd:      {"add", 2, 2, api.Int, api.Int},
	api.OSub:      {"sub", 2, 2, api.Int, api.Int},
	api.OMul:      {"mul", 2, 2, api.Int, api.Int},
	api.ODiv:      {"div", 2, 2, api.Int, api.Int},
	api.OMod:      {"mod", 2, 2, api.Int, api.Int},
	api.ONeg:      {"neg", 1, 1, api.Int, api.Int},
	api.OConcat:   {"concat", 2, 2, api.Text, api.Text},
	api.OLength:   {"length", 1, 1, api.Text, api.Int},
	api.OEq:       {"eq", 2, 2, common, api.Bool},
	api.ONe:       {"ne", 2, 2, common, api.Bool},
	api.OLt:       {"lt", 2, 2, common, api.Bool},
	api.OLe:       {"le", 2, 2, common, api.Bool},
	api.OGt:       {"gt", 2, 2, common, api.Bool},
	api.OGe:       {"ge", 2, 2, common, api.Bool},
	api.OSame:     {"same", 2, 2, common, api.Bool},
	api.OAnd:      {"and", 2, api.MaxCols, api.Bool, api.Bool},
	api.OOr:       {"or", 2, api.MaxCols, api.Bool, api.Bool},
	api.ONot:      {"not", 1, 1, api.Bool, api.Bool},
	api.OIsNull:   {"isnull", 1, 1, common, api.Bool},
	api.OIsTrue:   {"istrue", 1, 1, api.Bool, api.Bool},
	api.OCase:     {"case", 3, api.MaxCols, common, common},
	api.OCoalesce: {"coalesce", 2, api.MaxCols, common, common},
}

// hasForm tells whether e, which is as deep as depth says, has the form of an expression. It counts the nodes, and stops
// where there are too many: what shares its memory with itself may have more of them than can be gone through.
func hasForm(e api.Expr, depth int, nodes *int) bool {
	*nodes++
	if *nodes > api.MaxNodes || depth > api.MaxDepth || !isNode(e) {
		return false
	}
	for _, a := range e.Args {
		if !hasForm(a, depth+1, nodes) {
			return false
		}
	}
	return true
}

// isNode tells whether e has just the fields of its Op.
func isNode(e api.Expr) bool {
	if len(e.Rels) > 0 {
		return false
	}
	switch e.Op {
	case api.OCol:
		return e.N >= 0 && e.M == 0 && hasNoLit(e) && len(e.Args) == 0
	case api.OOuter:
		return e.N >= 1 && e.M >= 0 && hasNoLit(e) && len(e.Args) == 0
	case api.OLit:
		return e.N == 0 && e.M == 0 && hasLit(e) && len(e.Args) == 0
	}
	return e.N == 0 && e.M == 0 && hasNoLit(e) && takes(e.Op, len(e.Args))
}

func hasLit(e api.Expr) bool {
	isKind := e.Kind == api.Int || e.Kind == api.Bool || e.Kind == api.Text
	return isKind && (e.Lit.Kind == e.Kind || e.Lit.Kind == api.Null) && value.Check(e.Lit) == api.OK
}

func hasNoLit(e api.Expr) bool {
	return e.Kind == api.Null && e.Lit == api.Value{}
}

// takes tells whether op is an operation that may have so many Args.
func takes(op api.Op, args int) bool {
	if op < api.OAdd || op > api.OCoalesce || op == api.OCase && args%2 == 0 {
		return false
	}
	return args >= shapes[op].least && args <= shapes[op].most
}

// parted returns, of what there is for each of the Args of an OCase, that for the conditions, and that for the values.
func parted[T any](args []T) (conditions, values []T) {
	last := len(args) - 1
	for i, x := range args {
		if i%2 == 0 && i < last {
			conditions = append(conditions, x)
		} else {
			values = append(values, x)
		}
	}
	return conditions, values
}
