package algebra

import "tactician/api"

// shape is what the nodes of an operation have.
type shape struct {
	word        string
	least, most int // how many inputs
	fields      int // which other fields
	// cols returns the columns, by those of the inputs; false if what the node has is not right.
	cols func(c *checker, r api.Rel, ins [][]api.Col, at place) ([]api.Col, bool)
	// items returns what is written before the inputs; read reads that, and the comma behind it if there are inputs.
	items func(r api.Rel) []string
	read  func(p *parser) api.Rel
}

// The fields of a relation, but for Op and Ins.
const (
	hasName = 1 << iota
	hasN
	hasJoin
	hasAll
	hasCols
	hasRows
	hasSets
	hasExprs
	hasGroup
	hasCalls
	hasKeys
	hasOffset
	hasFetch
)

// shapes has the operations.
func shapes() [api.RLeaf + 1]shape {
	return [...]shape{
		api.RScan:   {"scan", 0, 0, hasName, (*checker).scan, scanItems, (*parser).scan},
		api.RValues: {"values", 0, 0, hasCols | hasRows, (*checker).values, valuesItems, (*parser).values},
		api.RFilter: {"filter", 1, 1, hasExprs, (*checker).filter, exprsItems, (*parser).exprs},
		api.RMap:    {"map", 1, 1, hasExprs, (*checker).mapped, exprsItems, (*parser).exprs},
		api.RJoin:   {"join", 2, 2, hasJoin | hasExprs, (*checker).join, joinItems, (*parser).join},
		api.RApply:  {"apply", 2, 2, hasN | hasJoin, (*checker).apply, applyItems, (*parser).apply},
		api.RGroup:  {"group", 1, 1, hasGroup | hasCalls, (*checker).group, groupItems, (*parser).group},
		api.RUnion:  {"union", 2, api.MaxCols, 0, (*checker).union, unionItems, (*parser).union},
		api.RBoth:   {"both", 2, 2, hasAll, (*checker).both, setItems, (*parser).set},
		api.RMinus:  {"minus", 2, 2, hasAll, (*checker).minus, setItems, (*parser).set},
		api.RSort:   {"sort", 1, 1, hasKeys | hasOffset | hasFetch, (*checker).sort, sortItems, (*parser).sort},
		api.RLeaf:   {"leaf", 0, 0, hasN | hasCols | hasSets, (*checker).leaf, leafItems, (*parser).leaf},
	}
}

// shapeOf returns the shape of an operation; false if there is no such operation.
func shapeOf(op api.RelOp) (shape, bool) {
	if op < api.RScan || op > api.RLeaf {
		return shape{}, false
	}
	return shapes()[op], true
}

// allows tells whether r has no other fields than the shape has, and as many inputs as it may have.
func (s shape) allows(r api.Rel) bool {
	return fieldsOf(r)&^s.fields == 0 && len(r.Ins) >= s.least && len(r.Ins) <= s.most
}

// fieldsOf returns which fields of r are no zero values.
func fieldsOf(r api.Rel) int {
	out := 0
	for i, is := range [...]bool{
		r.Name != "", r.N != 0, r.Join != api.Inner, r.All, len(r.Cols) > 0, len(r.Rows) > 0, len(r.Sets) > 0,
		len(r.Exprs) > 0, len(r.Group) > 0, len(r.Calls) > 0, len(r.Keys) > 0, r.Offset != 0, r.Fetch != 0,
	} {
		if is {
			out |= hasName << i
		}
	}
	return out
}
