package syntax

import (
	"math"

	"tactician/api"
)

// Which fields bodies, sources and nodes have is a sum of bits. Op, and the Args of nodes, have none.
const (
	hasAll = 1 << iota
	hasDistinct
	hasItems
	hasFrom
	hasWhere
	hasGroup
	hasHaving
	hasRows
	hasIns
	hasName
	hasAs
	hasQuery
	hasOn
	hasText
	hasNumber
	hasNot
)

// bodyFields has the fields that the bodies of each operation may have.
var bodyFields = [...]int{
	Select:    hasDistinct | hasItems | hasFrom | hasWhere | hasGroup | hasHaving,
	Values:    hasRows,
	Union:     hasAll | hasIns,
	Except:    hasAll | hasIns,
	Intersect: hasAll | hasIns,
	Sub:       hasIns,
}

// sourceFields has the fields that the sources of each operation may have.
var sourceFields = [...]int{
	Named:     hasName | hasAs,
	Derived:   hasQuery | hasAs,
	Cross:     hasIns,
	InnerJoin: hasIns | hasOn,
	LeftJoin:  hasIns | hasOn,
	RightJoin: hasIns | hasOn,
	FullJoin:  hasIns | hasOn,
}

// nodeShapes has the fields that the nodes of each operation may have, and how many Args.
var nodeShapes = [...]struct{ fields, least, most int }{
	Num:      {hasNumber, 0, 0},
	Str:      {hasText, 0, 0},
	True:     {0, 0, 0},
	False:    {0, 0, 0},
	Nothing:  {0, 0, 0},
	Column:   {hasText, 0, 0},
	Of:       {hasText, 0, 0},
	Call:     {hasText | hasDistinct, 1, api.MaxCols},
	CountAll: {hasText, 0, 0},
	Unary:    {hasText, 1, 1},
	Binary:   {hasText, 2, 2},
	IsNull:   {hasNot, 1, 1},
	IsTrue:   {hasNot, 1, 1},
	Differs:  {hasNot, 2, 2},
	In:       {hasNot | hasQuery, 1, 1 + api.MaxCols},
	Between:  {hasNot, 3, 3},
	Exists:   {hasQuery, 0, 0},
	Case:     {0, 2, math.MaxInt},
	Scalar:   {hasQuery, 0, 0},
	Tuple:    {0, 2, api.MaxCols},
}

// fieldsOfBody is which fields of b are no zero values; those of sources and nodes likewise.
func fieldsOfBody(b Body) int {
	return bit(hasAll, b.All) | bit(hasDistinct, b.Distinct) | bit(hasItems, len(b.Items) > 0) | bit(hasFrom, len(b.From) > 0) |
		bit(hasWhere, len(b.Where) > 0) | bit(hasGroup, len(b.Group) > 0) | bit(hasHaving, len(b.Having) > 0) |
		bit(hasRows, len(b.Rows) > 0) | bit(hasIns, len(b.Ins) > 0)
}

func fieldsOfSource(s Source) int {
	return bit(hasName, s.Name != "") | bit(hasAs, s.As != "") | bit(hasQuery, len(s.Query) > 0) | bit(hasIns, len(s.Ins) > 0) |
		bit(hasOn, len(s.On) > 0)
}

func fieldsOfNode(n Node) int {
	return bit(hasText, n.Text != "") | bit(hasNumber, n.Number != 0) | bit(hasNot, n.Not) | bit(hasDistinct, n.Distinct) |
		bit(hasQuery, len(n.Query) > 0)
}

// bit is b, or 0 if it is not there.
func bit(b int, is bool) int {
	if is {
		return b
	}
	return 0
}
