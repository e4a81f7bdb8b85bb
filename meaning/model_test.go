package meaning_test

import (
	"cmp"
	"slices"
	"strconv"
	"strings"

	"tactician/api"
)

// This is a second definition of what relations are, by other means: expressions are evaluated here, and rows are compared
// by their strings.

// around is an outer row of the model.
type around struct {
	n    int
	row  []api.Value
	next *around
}

// model makes relations that have the form, and counts the work.
type model struct {
	tables map[string][][]api.Value
	leaves [][][]api.Value
	work   int
}

func newModel(leaves [][][]api.Value) *model {
	d := shopData()
	return &model{tables: map[string][][]api.Value{"t": d.Rows[0], "u": d.Rows[1], "n": d.Rows[2]}, leaves: leaves}
}

// result is the result of r.
func (m *model) result(r api.Rel) [][]api.Value {
	l := m.rel(r, nil)
	if r.Op != api.RSort {
		l = slices.SortedFunc(slices.Values(l), byValues)
	}
	return l
}

func (m *model) rel(r api.Rel, on *around) [][]api.Value {
	var l [][]api.Value
	switch r.Op {
	case api.RScan:
		l = m.tables[r.Name]
	case api.RValues:
		l = r.Rows
	case api.RLeaf:
		l = m.leaves[r.N]
	case api.RFilter:
		for _, row := range m.rel(r.Ins[0], on) {
			if m.expr(r.Exprs[0], row, on) == yes(true) {
				l = append(l, row)
			}
		}
	case api.RMap:
		for _, row := range m.rel(r.Ins[0], on) {
			l = append(l, m.exprs(r.Exprs, row, on))
		}
	case api.RJoin:
		l = m.join(r, on)
	case api.RApply:
		l = m.apply(r, on)
	case api.RGroup:
		l = m.group(r, on)
	case api.RSort:
		l = m.sort(r, on)
	default:
		l = m.set(r, on)
	}
	m.work += 1 + len(l)
	return l
}

// join has pairs, then the rows of x without one, then those of y.
func (m *model) join(r api.Rel, on *around) [][]api.Value {
	x, y := m.rel(r.Ins[0], on), m.rel(r.Ins[1], on)
	var pairs, out [][]api.Value
	inX, inY := make([]bool, len(x)), make([]bool, len(y))
	for i := range x {
		for j := range y {
			m.work++
			pair := append(slices.Clone(x[i]), y[j]...)
			if m.expr(r.Exprs[0], pair, on) == yes(true) {
				pairs = append(pairs, pair)
				inX[i], inY[j] = true, true
			}
		}
	}
	if r.Join <= api.Full {
		out = pairs
	}
	for i, row := range x {
		switch {
		case !inX[i] && (r.Join == api.Left || r.Join == api.Full):
			out = append(out, append(slices.Clone(row), make([]api.Value, m.width(r.Ins[1]))...))
		case inX[i] && r.Join == api.Semi, !inX[i] && r.Join == api.Anti:
			out = append(out, row)
		}
	}
	for j, row := range y {
		if !inY[j] && r.Join == api.Full {
			out = append(out, append(make([]api.Value, m.width(r.Ins[0])), row...))
		}
	}
	return out
}

func (m *model) apply(r api.Rel, on *around) [][]api.Value {
	var out [][]api.Value
	for _, row := range m.rel(r.Ins[0], on) {
		y := m.rel(r.Ins[1], &around{r.N, row, on})
		if r.Join == api.Left && len(y) == 0 {
			y = [][]api.Value{make([]api.Value, m.width(r.Ins[1]))}
		}
		if r.Join <= api.Left {
			for _, other := range y {
				out = append(out, append(slices.Clone(row), other...))
			}
		} else if len(y) > 0 == (r.Join == api.Semi) {
			out = append(out, row)
		}
	}
	return out
}

// width is how many columns r has.
func (m *model) width(r api.Rel) int {
	switch r.Op {
	case api.RScan:
		return len(m.tables[r.Name][0])
	case api.RValues, api.RLeaf:
		return len(r.Cols)
	case api.RMap:
		return len(r.Exprs)
	case api.RGroup:
		return len(r.Group) + len(r.Calls)
	case api.RJoin, api.RApply:
		if r.Join <= api.Full {
			return m.width(r.Ins[0]) + m.width(r.Ins[1])
		}
	}
	return m.width(r.Ins[0])
}

func (m *model) group(r api.Rel, on *around) [][]api.Value {
	groups := map[string][][]api.Value{}
	if len(r.Group) == 0 {
		groups[""] = nil
	}
	for _, row := range m.rel(r.Ins[0], on) {
		var key strings.Builder
		for _, at := range r.Group {
			key.WriteString(strconv.Quote(written([][]api.Value{{row[at]}})))
		}
		groups[key.String()] = append(groups[key.String()], row)
	}
	var out [][]api.Value
	for _, l := range groups {
		var row []api.Value
		for _, at := range r.Group {
			row = append(row, l[0][at])
		}
		for _, call := range r.Calls {
			row = append(row, computed(call, l))
		}
		out = append(out, row)
	}
	return out
}

func computed(call api.Call, l [][]api.Value) api.Value {
	some, total, least, greatest := 0, int64(0), api.Value{}, api.Value{}
	seen := map[api.Value]bool{}
	for _, row := range l {
		v := row[call.Col]
		if v.Kind == api.Null || call.Distinct && seen[v] {
			continue
		}
		seen[v] = true
		some++
		total += v.Int
		if least.Kind == api.Null || ordered(v, least) < 0 {
			least = v
		}
		if ordered(v, greatest) > 0 {
			greatest = v
		}
	}
	switch call.Fn {
	case api.Count:
		return number(len(l))
	case api.Some:
		return number(some)
	case api.Min:
		return least
	case api.Max:
		return greatest
	case api.Sum:
		if some > 0 {
			return api.Value{Kind: api.Int, Int: total}
		}
	case api.Only:
		if len(l) == 1 {
			return l[0][call.Col]
		}
	}
	return api.Value{}
}

// set is for RUnion, RBoth and RMinus.
func (m *model) set(r api.Rel, on *around) [][]api.Value {
	var all [][]api.Value
	var times [2]map[string]int
	rows := map[string][]api.Value{}
	for i, in := range r.Ins {
		l := m.rel(in, on)
		all = append(all, l...)
		if r.Op == api.RUnion {
			continue
		}
		times[i] = map[string]int{}
		for _, row := range l {
			s := written([][]api.Value{row})
			times[i][s]++
			rows[s] = row
		}
	}
	if r.Op == api.RUnion {
		return all
	}
	var out [][]api.Value
	for s, row := range rows {
		x, y := times[0][s], times[1][s]
		n := min(x, y)
		switch {
		case r.Op == api.RBoth && !r.All:
			n = min(n, 1)
		case r.Op == api.RMinus && r.All:
			n = max(0, x-y)
		case r.Op == api.RMinus:
			n = 0
			if x > 0 && y == 0 {
				n = 1
			}
		}
		out = append(out, slices.Repeat([][]api.Value{row}, n)...)
	}
	return out
}

func (m *model) sort(r api.Rel, on *around) [][]api.Value {
	l := slices.SortedFunc(slices.Values(m.rel(r.Ins[0], on)), func(a, b []api.Value) int {
		for _, k := range r.Keys {
			n := ordered(a[k.Col], b[k.Col])
			if k.Desc {
				n = -n
			}
			if n != 0 {
				return n
			}
		}
		return byValues(a, b)
	})
	var out [][]api.Value
	for i, row := range l {
		if i >= r.Offset && (r.Fetch < 0 || i < r.Offset+r.Fetch) {
			out = append(out, row)
		}
	}
	return out
}

func byValues(a, b []api.Value) int { return slices.CompareFunc(a, b, ordered) }

func ordered(a, b api.Value) int {
	return cmp.Or(cmp.Compare(a.Kind, b.Kind), cmp.Compare(a.Int, b.Int), cmp.Compare(a.Text, b.Text))
}

func yes(is bool) api.Value {
	if is {
		return api.Value{Kind: api.Bool, Int: 1}
	}
	return api.Value{Kind: api.Bool}
}

func (m *model) exprs(l []api.Expr, row []api.Value, on *around) []api.Value {
	var out []api.Value
	for _, e := range l {
		out = append(out, m.expr(e, row, on))
	}
	return out
}

func (m *model) expr(e api.Expr, row []api.Value, on *around) api.Value {
	args := m.exprs(e.Args, row, on)
	var l [][]api.Value
	for _, q := range e.Rels {
		l = m.rel(q, &around{e.N, row, on})
	}
	switch e.Op {
	case api.OCol:
		return row[e.N]
	case api.OOuter:
		for on.n != e.N {
			on = on.next
		}
		return on.row[e.M]
	case api.OLit:
		return e.Lit
	case api.OExists:
		return yes(len(l) > 0)
	case api.OOne:
		if len(l) == 1 {
			return l[0][0]
		}
		return api.Value{}
	case api.OIn:
		m.work += len(l)
		return among(args, l)
	}
	return computedExpr(e.Op, args)
}

// among is what OIn does.
func among(args []api.Value, l [][]api.Value) api.Value {
	out := yes(false)
	for _, row := range l {
		is := yes(true)
		for i, v := range args {
			switch {
			case is == yes(false):
			case v.Kind == api.Null || row[i].Kind == api.Null:
				is = api.Value{}
			case v != row[i]:
				is = yes(false)
			}
		}
		if is == yes(true) {
			return is
		}
		if is.Kind == api.Null {
			out = is
		}
	}
	return out
}

func computedExpr(op api.Op, l []api.Value) api.Value {
	isNull := func(v api.Value) bool { return v.Kind == api.Null }
	number := func(n int64) api.Value { return api.Value{Kind: api.Int, Int: n} }
	none := slices.ContainsFunc(l, isNull)
	switch op {
	case api.OAnd, api.OOr:
		decides := yes(op == api.OOr)
		switch {
		case slices.Contains(l, decides):
			return decides
		case none:
			return api.Value{}
		}
		return yes(op == api.OAnd)
	case api.OIsNull:
		return yes(none)
	case api.OIsTrue:
		return yes(l[0] == yes(true))
	case api.OSame:
		return yes(l[0] == l[1])
	case api.OCase:
		for len(l) > 1 {
			if l[0] == yes(true) {
				return l[1]
			}
			l = l[2:]
		}
		return l[0]
	case api.OCoalesce:
		for _, v := range l {
			if v.Kind != api.Null {
				return v
			}
		}
		return api.Value{}
	}
	if none {
		return api.Value{}
	}
	a, b := l[0], l[len(l)-1]
	switch op {
	case api.OAdd:
		return number(a.Int + b.Int)
	case api.OSub:
		return number(a.Int - b.Int)
	case api.OMul:
		return number(a.Int * b.Int)
	case api.ODiv, api.OMod:
		if b.Int == 0 {
			return api.Value{}
		}
		if op == api.ODiv {
			return number(a.Int / b.Int)
		}
		return number(a.Int % b.Int)
	case api.ONeg:
		return number(-a.Int)
	case api.OConcat:
		s := a.Text + b.Text
		return api.Value{Kind: api.Text, Text: s[:min(len(s), api.MaxText)]}
	case api.OLength:
		return number(int64(len(a.Text)))
	case api.ONot:
		return yes(a == yes(false))
	}
	n := ordered(a, b)
	return yes([]bool{n == 0, n != 0, n < 0, n <= 0, n > 0, n >= 0}[op-api.OEq])
}
