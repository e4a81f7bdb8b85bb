package meaning

import (
	"slices"

	"tactician/api"
	"tactician/rows"
	"tactician/value"
)

// relation is a node of a relation, with what is in it.
type relation interface {
	// put hands the rows of the node, which is within the rows around, to out.
	put(m *maker, around *outer, out func(row []api.Value))
}

// listed is an RScan or an RValues.
type listed struct {
	kinds []api.Kind
	rows  [][]api.Value
}

type leaf struct {
	kinds []api.Kind
	n     int
}

type filter struct {
	x  relation
	is expression
}

type mapped struct {
	x  relation
	to []expression
}

// sides is what an RJoin and an RApply have in common; noX and noY are the nulls for a row without a partner.
type sides struct {
	x, y     relation
	how      api.Join
	noX, noY []api.Value
}

type join struct {
	sides
	is expression
}

type apply struct {
	sides
}

type group struct {
	x     relation
	by    []int
	calls []api.Call
}

type union struct {
	ins []relation
}

type both struct {
	x, y relation
	all  bool
}

type minus struct {
	x, y relation
	all  bool
}

type sorted struct {
	x             relation
	keys          []api.Key
	offset, fetch int
}

func (x listed) put(_ *maker, _ *outer, out func(row []api.Value)) {
	putAll(x.rows, out)
}

func (x leaf) put(m *maker, _ *outer, out func(row []api.Value)) {
	putAll(m.leaves[x.n], out)
}

func (x filter) put(m *maker, around *outer, out func(row []api.Value)) {
	m.put(x.x, around, func(row []api.Value) {
		if x.is.holds(m, &outer{row, around}) {
			out(row)
		}
	})
}

func (x mapped) put(m *maker, around *outer, out func(row []api.Value)) {
	m.put(x.x, around, func(row []api.Value) { out(values(x.to, m, &outer{row, around})) })
}

func (j join) put(m *maker, around *outer, out func(row []api.Value)) {
	xs, ys := m.list(j.x, around), m.list(j.y, around)
	m.spend(len(xs) * len(ys))
	hasPartner := make([]bool, len(ys))
	for _, x := range xs {
		var partners [][]api.Value
		for i, y := range ys {
			if j.is.holds(m, &outer{slices.Concat(x, y), around}) {
				partners = append(partners, y)
				hasPartner[i] = true
			}
		}
		j.putRow(x, partners, out)
	}
	if j.how != api.Full {
		return
	}
	for i, y := range ys {
		if !hasPartner[i] {
			out(slices.Concat(j.noX, y))
		}
	}
}

// put does not follow the canonical order of the first input's rows: the rows of both make a bag, and the work is the same.
func (a apply) put(m *maker, around *outer, out func(row []api.Value)) {
	for _, x := range m.list(a.x, around) {
		a.putRow(x, m.list(a.y, &outer{x, around}), out)
	}
}

// putRow hands what a row of the first input becomes, by its partners in the second one, to out.
func (s sides) putRow(x []api.Value, partners [][]api.Value, out func(row []api.Value)) {
	if s.how == api.Semi || s.how == api.Anti {
		if (len(partners) > 0) == (s.how == api.Semi) {
			out(x)
		}
		return
	}
	if len(partners) == 0 && s.how != api.Inner {
		partners = [][]api.Value{s.noY}
	}
	for _, y := range partners {
		out(slices.Concat(x, y))
	}
}

func (g group) put(m *maker, around *outer, out func(row []api.Value)) {
	l := m.list(g.x, around)
	groups := [][][]api.Value{l} // one that is there also without rows
	if len(g.by) > 0 {
		groups, _ = rows.Groups(l, g.by)
	}
	for _, l := range groups {
		by := each(g.by, func(at int) api.Value { return l[0][at] })
		out(slices.Concat(by, each(g.calls, func(call api.Call) api.Value { return called(call, l) })))
	}
}

// called returns what call computes of the rows l.
func called(call api.Call, l [][]api.Value) api.Value {
	if call.Fn == api.Count {
		return number(len(l))
	}
	if call.Fn == api.Only {
		return onlyValue(l, call.Col)
	}
	var some []api.Value
	for _, row := range l {
		if row[call.Col].Kind != api.Null {
			some = append(some, row[call.Col])
		}
	}
	if call.Distinct {
		some, _ = value.Distinct(some)
	}
	switch {
	case call.Fn == api.Some:
		return number(len(some))
	case len(some) == 0:
		return api.Value{}
	case call.Fn == api.Sum:
		return sum(some)
	}
	some, _ = value.Sorted(some)
	if call.Fn == api.Min {
		return some[0]
	}
	return some[len(some)-1]
}

// onlyValue returns the value in the column col of the only row of l; null if there is another number of rows.
func onlyValue(l [][]api.Value, col int) api.Value {
	if len(l) != 1 {
		return api.Value{}
	}
	return l[0][col]
}

func sum(l []api.Value) api.Value {
	out := api.Value{Kind: api.Int}
	for _, v := range l {
		out.Int += v.Int
	}
	return out
}

func number(n int) api.Value {
	return api.Value{Kind: api.Int, Int: int64(n)}
}

func (u union) put(m *maker, around *outer, out func(row []api.Value)) {
	for _, in := range u.ins {
		m.put(in, around, out)
	}
}

func (x both) put(m *maker, around *outer, out func(row []api.Value)) {
	l, _ := rows.Both(m.list(x.x, around), m.list(x.y, around), x.all)
	putAll(l, out)
}

func (x minus) put(m *maker, around *outer, out func(row []api.Value)) {
	l, _ := rows.Minus(m.list(x.x, around), m.list(x.y, around), x.all)
	putAll(l, out)
}

func (s sorted) put(m *maker, around *outer, out func(row []api.Value)) {
	l, _ := rows.Ordered(m.list(s.x, around), s.keys)
	l = l[min(s.offset, len(l)):]
	if s.fetch >= 0 {
		l = l[:min(s.fetch, len(l))]
	}
	putAll(l, out)
}

func putAll(l [][]api.Value, out func(row []api.Value)) {
	for _, row := range l {
		out(row)
	}
}
