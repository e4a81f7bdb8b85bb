package algebra

import (
	"slices"

	"tactician/api"
	"tactician/rows"
)

// outer is an outer row.
type outer struct {
	n      int
	cols   []api.Col
	around *outer // the next one, going outwards
}

// place is where a node is: how deep, and within which outer rows.
type place struct {
	depth  int
	around *outer
}

func (at place) below() place {
	return place{at.depth + 1, at.around}
}

// inside is below, within one more outer row.
func (at place) inside(n int, cols []api.Col) place {
	return place{at.depth + 1, &outer{n, cols, at.around}}
}

// column returns the column m of the innermost outer row with the number n.
func (at place) column(n, m int) (api.Col, bool) {
	for row := at.around; row != nil; row = row.around {
		if row.n == n {
			return columnOf(row.cols, m)
		}
	}
	return api.Col{}, false
}

// checker goes through a relation on the tables of a base, and counts its nodes.
type checker struct {
	tables []api.Table
	nodes  int
}

// columns returns the columns of r within outer rows; false if it has not the form there.
func columns(b api.Base, r api.Rel, around *outer) ([]api.Col, bool) {
	c := &checker{tables: b.Tables}
	return c.rel(r, place{1, around})
}

// enters counts a node, and tells whether there may be one there. All stops where there may be none: what shares its
// memory with itself may have more nodes than can be gone through.
func (c *checker) enters(at place) bool {
	c.nodes++
	return c.nodes <= api.MaxNodes && at.depth <= api.MaxDepth
}

// rel returns the columns of r; false if it has not the form.
func (c *checker) rel(r api.Rel, at place) ([]api.Col, bool) {
	s, ok := shapeOf(r.Op)
	if !ok || !c.enters(at) || !s.allows(r) {
		return nil, false
	}
	var ins [][]api.Col
	for i, in := range r.Ins {
		below := at.below()
		if r.Op == api.RApply && i == 1 {
			below = at.inside(r.N, ins[0])
		}
		cols, ok := c.rel(in, below)
		if !ok {
			return nil, false
		}
		ins = append(ins, cols)
	}
	cols, ok := s.cols(c, r, ins, at)
	return cols, ok && rows.CheckCols(cols) == api.OK
}

func (c *checker) scan(r api.Rel, _ [][]api.Col, _ place) ([]api.Col, bool) {
	at := slices.IndexFunc(c.tables, func(t api.Table) bool { return t.Name == r.Name })
	if at < 0 {
		return nil, false
	}
	return each(c.tables[at].Cols, func(x api.Column) api.Col { return api.Col{Kind: x.Kind, Null: x.Null} }), true
}

func (c *checker) values(r api.Rel, _ [][]api.Col, _ place) ([]api.Col, bool) {
	return slices.Clone(r.Cols), rows.Check(r.Cols, r.Rows) == api.OK
}

func (c *checker) filter(r api.Rel, ins [][]api.Col, at place) ([]api.Col, bool) {
	return ins[0], c.isCondition(r.Exprs, ins[0], at)
}

func (c *checker) mapped(r api.Rel, ins [][]api.Col, at place) ([]api.Col, bool) {
	return c.exprs(r.Exprs, ins[0], at)
}

func (c *checker) join(r api.Rel, ins [][]api.Col, at place) ([]api.Col, bool) {
	return joined(r.Join, ins[0], ins[1]), c.isCondition(r.Exprs, slices.Concat(ins...), at)
}

func (c *checker) apply(r api.Rel, ins [][]api.Col, _ place) ([]api.Col, bool) {
	return joined(r.Join, ins[0], ins[1]), r.N >= 1 && r.Join != api.Full
}

func (c *checker) group(r api.Rel, ins [][]api.Col, _ place) ([]api.Col, bool) {
	x := ins[0]
	if !arePlaces(r.Group, len(x)) || !isRising(r.Group) {
		return nil, false
	}
	cols := each(r.Group, func(at int) api.Col { return x[at] })
	for _, call := range r.Calls {
		col, ok := called(call, x)
		if !ok {
			return nil, false
		}
		cols = append(cols, col)
	}
	return cols, true
}

func (c *checker) union(_ api.Rel, ins [][]api.Col, _ place) ([]api.Col, bool) {
	return merged(ins, func(a, b bool) bool { return a || b })
}

func (c *checker) both(_ api.Rel, ins [][]api.Col, _ place) ([]api.Col, bool) {
	return merged(ins, func(a, b bool) bool { return a && b })
}

func (c *checker) minus(_ api.Rel, ins [][]api.Col, _ place) ([]api.Col, bool) {
	return merged(ins, func(a, _ bool) bool { return a })
}

func (c *checker) sort(r api.Rel, ins [][]api.Col, _ place) ([]api.Col, bool) {
	by := each(r.Keys, func(k api.Key) int { return k.Col })
	slices.Sort(by)
	isCut := r.Offset >= 0 && r.Offset <= api.MaxRows && r.Fetch >= -1 && r.Fetch <= api.MaxRows
	return ins[0], isCut && arePlaces(by, len(ins[0])) && isRising(by)
}

func (c *checker) leaf(r api.Rel, _ [][]api.Col, _ place) ([]api.Col, bool) {
	if r.N < 0 || r.N > api.MaxFuel || len(r.Sets) > api.MaxKeys {
		return nil, false
	}
	isNone := func(set []int) bool { return !arePlaces(set, len(r.Cols)) || !isRising(set) }
	return slices.Clone(r.Cols), !slices.ContainsFunc(r.Sets, isNone)
}

// joined returns the columns of x and y joined in the way how. (Without such a way there are none, as no relation has.)
func joined(how api.Join, x, y []api.Col) []api.Col {
	switch how {
	case api.Inner:
		return slices.Concat(x, y)
	case api.Left:
		return slices.Concat(x, withNull(y))
	case api.Full:
		return slices.Concat(withNull(x), withNull(y))
	case api.Semi, api.Anti:
		return x
	}
	return nil
}

func withNull(l []api.Col) []api.Col {
	return each(l, func(c api.Col) api.Col { return api.Col{Kind: c.Kind, Null: true} })
}

// called returns the column of a call on rows with the columns x.
func called(call api.Call, x []api.Col) (api.Col, bool) {
	if call.Fn == api.Count {
		return api.Col{Kind: api.Int}, call == api.Call{Fn: api.Count}
	}
	of, ok := columnOf(x, call.Col)
	if !ok {
		return api.Col{}, false
	}
	switch call.Fn {
	case api.Some:
		return api.Col{Kind: api.Int}, true
	case api.Sum:
		return api.Col{Kind: api.Int, Null: true}, of.Kind == api.Int
	case api.Min, api.Max, api.Only:
		return api.Col{Kind: of.Kind, Null: true}, !call.Distinct
	}
	return api.Col{}, false
}

// merged returns the columns of all of ins, which have to be alike; null says whether one may be null, by the first ones
// and the next one.
func merged(ins [][]api.Col, null func(a, b bool) bool) ([]api.Col, bool) {
	out := slices.Clone(ins[0])
	for _, in := range ins[1:] {
		if !areAlike(out, in) {
			return nil, false
		}
		for i, col := range in {
			out[i].Null = null(out[i].Null, col.Null)
		}
	}
	return out, true
}

// areAlike tells whether x and y have the same Kinds.
func areAlike(x, y []api.Col) bool {
	return slices.EqualFunc(x, y, func(a, b api.Col) bool { return a.Kind == b.Kind })
}

func columnOf(cols []api.Col, at int) (api.Col, bool) {
	if at < 0 || at >= len(cols) {
		return api.Col{}, false
	}
	return cols[at], true
}

// arePlaces tells whether all of l are places of a list of n elements.
func arePlaces(l []int, n int) bool {
	return !slices.ContainsFunc(l, func(at int) bool { return at < 0 || at >= n })
}

func isRising(l []int) bool {
	for i := range l {
		if i > 0 && l[i] <= l[i-1] {
			return false
		}
	}
	return true
}
