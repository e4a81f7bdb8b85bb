package meaning_test

import (
	"math/rand/v2"
	"slices"
	"testing"

	"tactician/algebra"
	"tactician/api"
	"tactician/meaning"
	"tactician/rows"
)

// outerRow is an outer row of a relation that is made; the innermost one is the last one of a list.
type outerRow struct {
	n     int
	kinds []api.Kind
}

// maker makes random relations on shop, and rows for their leaves.
type maker struct {
	*rand.Rand
	defs   []api.Rel // the leaf with each number
	leaves [][][]api.Value
}

func newMaker(seed uint64) *maker { return &maker{Rand: rand.New(rand.NewPCG(7, seed))} }

func (m *maker) kind() api.Kind { return api.Kind(1 + m.IntN(3)) }

func (m *maker) kinds(most int) []api.Kind {
	var out []api.Kind
	for range 1 + m.IntN(most) {
		out = append(out, m.kind())
	}
	return out
}

func (m *maker) bool() bool { return m.IntN(2) == 0 }

// value makes one of few values, so that the same ones meet.
func (m *maker) value(c api.Col) api.Value {
	switch {
	case c.Null && m.IntN(4) == 0:
		return api.Value{}
	case c.Kind == api.Int:
		return number(m.IntN(5) - 1)
	case c.Kind == api.Bool:
		return yes(m.bool())
	}
	return api.Value{Kind: api.Text, Text: []string{"", "x", "y", "xy"}[m.IntN(4)]}
}

func (m *maker) cols(want []api.Kind) []api.Col {
	var out []api.Col
	for _, k := range want {
		out = append(out, api.Col{Kind: k, Null: m.IntN(3) > 0})
	}
	return out
}

func (m *maker) rows(cols []api.Col, most int) [][]api.Value {
	var out [][]api.Value
	for range m.IntN(most + 1) {
		var row []api.Value
		for _, c := range cols {
			row = append(row, m.value(c))
		}
		out = append(out, row)
	}
	return out
}

func kindsOf(cols []api.Col) []api.Kind {
	var out []api.Kind
	for _, c := range cols {
		out = append(out, c.Kind)
	}
	return out
}

// rel makes a relation with columns of the kinds want, within outer rows, at most left + 1 deep.
func (m *maker) rel(want []api.Kind, outer []outerRow, left int) api.Rel {
	kind := m.IntN(12)
	if left <= 0 {
		kind = 0
	}
	switch kind {
	case 0, 1:
		return m.leaf(want)
	case 2, 3:
		x := m.rel(want, outer, left-1)
		return filter(m.expr(api.Bool, want, outer, left-1), x)
	case 4, 5:
		on := m.kinds(3)
		x := m.rel(on, outer, left-1)
		return mapped(x, m.exprs(want, on, outer, left-1)...)
	case 6, 7, 8:
		return m.join(want, outer, left)
	case 9:
		return m.group(want, outer, left)
	case 10:
		return m.set(want, outer, left)
	}
	x := m.rel(want, outer, left-1)
	var keys []api.Key
	for _, at := range m.Perm(len(want))[:m.IntN(len(want)+1)] {
		keys = append(keys, api.Key{Col: at, Desc: m.bool()})
	}
	if m.bool() {
		return sorted(x, 0, -1, keys...)
	}
	return sorted(x, m.IntN(3), m.IntN(5)-1, keys...)
}

func (m *maker) leaf(want []api.Kind) api.Rel {
	for i, cols := range []string{"int int?", "text bool?", "int?"} {
		if slices.Equal(kindsOf(columns(cols)), want) && m.bool() {
			return scan([]string{"t", "u", "n"}[i])
		}
	}
	for _, r := range m.defs {
		if slices.Equal(kindsOf(r.Cols), want) && m.bool() {
			return r
		}
	}
	cols := m.cols(want)
	l := m.rows(cols, 5)
	if len(m.defs) > 20 || m.bool() {
		return api.Rel{Op: api.RValues, Cols: cols, Rows: l}
	}
	r := api.Rel{Op: api.RLeaf, N: len(m.defs), Cols: cols}
	if m.bool() {
		r.Sets = [][]int{{0}}
		seen := map[api.Value]bool{}
		l = slices.DeleteFunc(l, func(row []api.Value) bool {
			was := seen[row[0]]
			seen[row[0]] = true
			return was
		})
	}
	m.defs = append(m.defs, r)
	m.leaves = append(m.leaves, l)
	return r
}

// join makes an RJoin or an RApply.
func (m *maker) join(want []api.Kind, outer []outerRow, left int) api.Rel {
	how := api.Join(m.IntN(5))
	if len(want) == 1 {
		how = api.Semi + api.Join(m.IntN(2))
	}
	first, second := want, m.kinds(2)
	if how <= api.Full {
		at := 1 + m.IntN(len(want)-1)
		first, second = want[:at], want[at:]
	}
	x := m.rel(first, outer, left-1)
	if how != api.Full && m.bool() {
		n := 1 + m.IntN(3)
		return apply(n, how, x, m.rel(second, append(slices.Clone(outer), outerRow{n, first}), left-1))
	}
	y := m.rel(second, outer, left-1)
	return join(how, m.expr(api.Bool, slices.Concat(first, second), outer, left-1), x, y)
}

func (m *maker) group(want []api.Kind, outer []outerRow, left int) api.Rel {
	var on []api.Kind
	r := group(api.Rel{}, nil)
	by := m.IntN(len(want) + 1)
	for _, k := range want[:by] {
		if m.IntN(3) == 0 {
			on = append(on, m.kind())
		}
		r.Group = append(r.Group, len(on))
		on = append(on, k)
	}
	for _, k := range want[by:] {
		call := api.Call{Fn: api.Fn(4 + m.IntN(3)), Col: len(on)}
		if k == api.Int {
			call.Fn = api.Fn(1 + m.IntN(6))
		}
		of := k
		switch call.Fn {
		case api.Count:
			call.Col = 0
		case api.Some:
			of = m.kind()
			call.Distinct = m.bool()
		case api.Sum:
			call.Distinct = m.bool()
		}
		r.Calls = append(r.Calls, call)
		on = append(on, of)
	}
	r.Ins = []api.Rel{m.rel(on, outer, left-1)}
	return r
}

// set makes an RUnion, RBoth or RMinus.
func (m *maker) set(want []api.Kind, outer []outerRow, left int) api.Rel {
	x, y := m.rel(want, outer, left-1), m.rel(want, outer, left-1)
	switch m.IntN(3) {
	case 0:
		r := union(x, y)
		for range m.IntN(2) {
			r.Ins = append(r.Ins, m.rel(want, outer, left-1))
		}
		return r
	case 1:
		return set(api.RBoth, m.bool(), x, y)
	}
	return set(api.RMinus, m.bool(), x, y)
}

func (m *maker) exprs(of, on []api.Kind, outer []outerRow, left int) []api.Expr {
	var out []api.Expr
	for _, k := range of {
		out = append(out, m.expr(k, on, outer, left))
	}
	return out
}

// expr makes an expression of a kind, on rows with the columns on, at most left + 1 deep.
func (m *maker) expr(kind api.Kind, on []api.Kind, outer []outerRow, left int) api.Expr {
	if left <= 0 || m.IntN(4) == 0 {
		return m.smallExpr(kind, on, outer)
	}
	if m.IntN(5) == 0 {
		return m.query(kind, on, outer, left)
	}
	ops := map[api.Kind][]api.Op{
		api.Int:  {api.OAdd, api.OSub, api.OMul, api.ODiv, api.OMod, api.ONeg, api.OLength, api.OCase, api.OCoalesce},
		api.Bool: {api.OEq, api.ONe, api.OLt, api.OLe, api.OGt, api.OGe, api.OSame, api.OAnd, api.OOr, api.ONot, api.OIsNull, api.OIsTrue, api.OEq, api.OCase, api.OCoalesce},
		api.Text: {api.OConcat, api.OCase, api.OCoalesce},
	}[kind]
	op := ops[m.IntN(len(ops))]
	of := []api.Kind{kind, kind}
	switch op {
	case api.ONeg, api.ONot, api.OIsTrue:
		of = of[:1]
	case api.OLength:
		of = []api.Kind{api.Text}
	case api.OIsNull:
		of = []api.Kind{m.kind()}
	case api.OAnd, api.OOr, api.OCoalesce:
		of = slices.Repeat(of[:1], 2+m.IntN(2))
	case api.OCase:
		of = []api.Kind{api.Bool, kind, kind}
	case api.OEq, api.ONe, api.OLt, api.OLe, api.OGt, api.OGe, api.OSame:
		of = slices.Repeat([]api.Kind{m.kind()}, 2)
	}
	return node(op, m.exprs(of, on, outer, left-1)...)
}

// smallExpr makes a column, one of an outer row, or a literal.
func (m *maker) smallExpr(kind api.Kind, on []api.Kind, outer []outerRow) api.Expr {
	for i, row := range slices.Backward(outer) {
		if slices.ContainsFunc(outer[i+1:], func(o outerRow) bool { return o.n == row.n }) {
			continue // another one is nearer
		}
		for at, k := range row.kinds {
			if k == kind && m.bool() {
				return api.Expr{Op: api.OOuter, N: row.n, M: at}
			}
		}
	}
	for _, at := range m.Perm(len(on)) {
		if on[at] == kind && m.IntN(4) > 0 {
			return api.Expr{Op: api.OCol, N: at}
		}
	}
	return api.Expr{Op: api.OLit, Kind: kind, Lit: m.value(api.Col{Kind: kind, Null: true})}
}

// query makes an OExists, OIn or OOne.
func (m *maker) query(kind api.Kind, on []api.Kind, outer []outerRow, left int) api.Expr {
	n := 1 + m.IntN(3)
	inner := append(slices.Clone(outer), outerRow{n, on})
	if kind != api.Bool || m.IntN(3) == 0 {
		return one(n, m.rel([]api.Kind{kind}, inner, left-1))
	}
	if m.bool() {
		return exists(n, m.rel(m.kinds(3), inner, left-1))
	}
	of := m.kinds(2)
	return in(n, m.rel(of, inner, left-1), m.exprs(of, on, outer, left-1)...)
}

// sample makes a relation that has the form, is not too large, and takes not too long.
func (m *maker) sample(want []api.Kind, left int) (api.Rel, *model) {
	for {
		m.defs, m.leaves = nil, nil
		r := m.rel(want, nil, left)
		if n, e := algebra.Nodes(shopBase(), r); e != api.OK || n > 150 {
			continue
		}
		if model := newModel(m.leaves); m.isSmall(model, r) {
			return r, newModel(m.leaves)
		}
	}
}

// isSmall tells whether r has little work.
func (m *maker) isSmall(x *model, r api.Rel) bool {
	x.rel(r, nil)
	return x.work < 20000
}

// TestRandom compares results with those of the model.
func TestRandom(t *testing.T) {
	t.Parallel()
	b, d := shopBase(), shopData()
	m := newMaker(1)
	withRows, withLeaves := 0, 0
	for i := range 4000 {
		r, x := m.sample(m.kinds(4), 2+i%5)
		want := x.result(r)
		got, e := meaning.Given(b, d, m.leaves, r)
		if e != api.OK || !slices.EqualFunc(got, want, slices.Equal) {
			s, _ := algebra.String(b, r)
			t.Fatalf("%s with %v: %s, %v, not %s", s, m.leaves, written(got), e, written(want))
		}
		if len(got) > 0 {
			withRows++
		}
		if len(m.leaves) > 0 {
			withLeaves++
			continue
		}
		if got, e := meaning.Result(b, d, r); e != api.OK || !slices.EqualFunc(got, want, slices.Equal) {
			t.Errorf("Result: %v, not %v", got, want)
		}
		bag, e := meaning.Bag(b, d, r)
		if e != api.OK || !slices.EqualFunc(bag, slices.SortedFunc(slices.Values(want), byValues), slices.Equal) {
			t.Errorf("Bag: %v, not in canonical order %v", bag, want)
		}
	}
	if withRows < 1000 || withLeaves < 1000 {
		t.Errorf("only %d relations had rows, and %d leaves", withRows, withLeaves)
	}
}

// given returns the result of r with the leaves of m.
func (m *maker) given(t *testing.T, r api.Rel) [][]api.Value {
	t.Helper()
	l, e := meaning.Given(shopBase(), shopData(), m.leaves, r)
	if e != api.OK {
		t.Fatalf("%v: %v", r, e)
	}
	return l
}

// isBag tells whether lists together are the bag want.
func isBag(want [][]api.Value, lists ...[][]api.Value) bool {
	is, e := rows.Same(want, slices.Concat(lists...))
	return is && e == api.OK
}

// TestFits: P7.5
func TestFits(t *testing.T) {
	t.Parallel()
	m := newMaker(5)
	for i := range 2000 {
		r, _ := m.sample(m.kinds(4), 2+i%5)
		cols, _ := algebra.Cols(shopBase(), r)
		if l := m.given(t, r); rows.Check(cols, l) != api.OK {
			t.Errorf("%v does not fit %v", l, cols)
		}
	}
}

// TestOfSets: P7.6 and P7.7
func TestOfSets(t *testing.T) {
	t.Parallel()
	m := newMaker(6)
	for range 500 {
		want := m.kinds(2)
		r, _ := m.sample(want, 3)
		leaves, defs := m.leaves, m.defs
		y, _ := m.sample(want, 3)
		if len(m.leaves) > 0 { // which have the numbers of other ones
			y = api.Rel{Op: api.RValues, Cols: m.cols(want)}
			y.Rows = m.rows(y.Cols, 6)
		}
		m.leaves, m.defs = leaves, defs
		x := m.given(t, r)
		if !isBag(x, m.given(t, set(api.RBoth, true, r, y)), m.given(t, set(api.RMinus, true, r, y))) {
			t.Errorf("%v and %v: not the rows of the first one", r, y)
		}
		once := m.given(t, group(r, places(len(want))))
		if !isBag(once, m.given(t, set(api.RBoth, false, r, y)), m.given(t, set(api.RMinus, false, r, y))) {
			t.Errorf("%v and %v: not each row of the first one once", r, y)
		}
		if l := m.given(t, sorted(r, 0, -1, api.Key{Col: len(want) - 1, Desc: true})); !isBag(x, l) {
			t.Errorf("%v sorted: %v", r, l)
		}
	}
}

// places is 0, 1 .. below n.
func places(n int) []int {
	var out []int
	for i := range n {
		out = append(out, i)
	}
	return out
}

// TestOfJoins: P7.8
func TestOfJoins(t *testing.T) {
	t.Parallel()
	m := newMaker(8)
	for range 800 {
		first, second := m.kinds(2), m.kinds(2)
		x, y := m.leaf(first), m.leaf(second)
		e := m.expr(api.Bool, slices.Concat(first, second), nil, 3)
		of := func(how api.Join) api.Rel { return join(how, e, x, y) }
		if m.bool() {
			y = m.rel(second, []outerRow{{1, first}}, 3)
			of = func(how api.Join) api.Rel { return apply(1, how, x, y) }
		} else if l := m.given(t, join(api.Inner, ex("false"), x, y)); len(l) > 0 {
			t.Errorf("%v, %v joined by false: %v", x, y, l)
		}
		inner, left, semi, anti := m.given(t, of(api.Inner)), m.given(t, of(api.Left)), m.given(t, of(api.Semi)), m.given(t, of(api.Anti))
		var alone [][]api.Value
		for _, row := range anti {
			alone = append(alone, slices.Concat(row, make([]api.Value, len(second))))
		}
		if !isBag(left, inner, alone) {
			t.Errorf("%v: left %v, inner %v, anti %v", of(api.Left), left, inner, anti)
		}
		if !isBag(m.given(t, x), semi, anti) {
			t.Errorf("%v: semi %v, anti %v", of(api.Semi), semi, anti)
		}
		m.defs, m.leaves = nil, nil
	}
}

// TestOfGroups: P7.9
func TestOfGroups(t *testing.T) {
	t.Parallel()
	m := newMaker(9)
	for range 500 {
		want := m.kinds(3)
		r, _ := m.sample(want, 3)
		by := places(len(want))[:m.IntN(len(want)+1)]
		n := int64(0)
		for _, row := range m.given(t, group(r, by, api.Call{Fn: api.Count})) {
			n += row[len(by)].Int
		}
		if l := m.given(t, r); n != int64(len(l)) {
			t.Errorf("%v by %v: %d rows, not %d", r, by, n, len(l))
		}
	}
}

// TestAskRandom: P7.4
func TestAskRandom(t *testing.T) {
	t.Parallel()
	b, d := shopBase(), shopData()
	m := newMaker(4)
	asked := 0
	for i := range 3000 {
		m.defs, m.leaves = nil, nil
		cols := m.cols(m.kinds(3))
		e := m.expr(m.kind(), kindsOf(cols), nil, 1+i%6)
		var row []api.Value
		for _, c := range cols {
			row = append(row, m.value(c))
		}
		got, f := meaning.Ask(b, d, e, cols, row)
		if len(m.leaves) > 0 {
			if f != api.ErrNone || got != (api.Value{}) {
				t.Errorf("%v with leaves: %v, %v", e, got, f)
			}
			continue
		}
		if f == api.ErrExpr && algebra.Check(b, mapped(api.Rel{Op: api.RValues, Cols: cols}, e)) != api.OK {
			continue // it has too many nodes
		}
		x := newModel(nil)
		want := x.expr(e, row, nil)
		if f == api.ErrLarge && x.work > api.MaxWork {
			continue
		}
		if f != api.OK || got != want {
			t.Errorf("%v on %v: %v, %v, not %v", e, row, got, f, want)
		}
		asked++
	}
	if asked < 1500 {
		t.Errorf("only %d had values", asked)
	}
}
