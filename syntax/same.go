package syntax

import "slices"

// depth is how many nodes are around two that are compared.
type depth int

func (d depth) query(a, b Query) bool {
	return a.Limit == b.Limit && a.Offset == b.Offset && slices.Equal(a.Keys, b.Keys) && d.body(a.Body, b.Body)
}

func (d depth) body(a, b Body) bool {
	return d <= deepest && a.Op == b.Op && a.All == b.All && a.Distinct == b.Distinct &&
		slices.EqualFunc(a.Items, b.Items, d.item) && slices.EqualFunc(a.From, b.From, d.source) &&
		d.nodes(a.Where, b.Where) && d.nodes(a.Group, b.Group) && d.nodes(a.Having, b.Having) &&
		slices.EqualFunc(a.Rows, b.Rows, d.nodes) && slices.EqualFunc(a.Ins, b.Ins, (d+1).query)
}

func (d depth) item(a, b Item) bool {
	return a.Star == b.Star && a.Table == b.Table && a.As == b.As && d.nodes(a.Expr, b.Expr)
}

func (d depth) source(a, b Source) bool {
	return d <= deepest && a.Op == b.Op && a.Name == b.Name && a.As == b.As &&
		slices.EqualFunc(a.Query, b.Query, (d+1).query) && slices.EqualFunc(a.Ins, b.Ins, (d+1).source) && d.nodes(a.On, b.On)
}

func (d depth) nodes(a, b []Node) bool {
	return slices.EqualFunc(a, b, (d + 1).node)
}

func (d depth) node(a, b Node) bool {
	return d <= deepest && a.Op == b.Op && a.Text == b.Text && a.Number == b.Number && a.Not == b.Not && a.Distinct == b.Distinct &&
		d.nodes(a.Args, b.Args) && slices.EqualFunc(a.Query, b.Query, (d+1).query)
}
