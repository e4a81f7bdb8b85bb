package algebra_test

import (
	"fmt"
	"maps"
	"math/rand/v2"
	"slices"
	"strconv"
	"strings"
	"testing"

	"tactician/algebra"
	"tactician/api"
	"tactician/rows"
	"tactician/scalar"
)

// outerRow is an outer row; the innermost one is the last one of a list.
type outerRow struct {
	n    int
	cols []api.Col
}

// place is a part, and what there is around it.
type place struct {
	path  []int
	outer []outerRow
	cols  []api.Col
	rel   api.Rel
	nodes int
}

// maker makes random relations, and says by itself what the chapter says of them.
type maker struct {
	*rand.Rand
	nodes  int
	scans  map[string]bool
	leaves map[int]bool
	plain  bool
	inside int // how many expressions are around
	path   []int
	parts  []place
}

func newMaker(r *rand.Rand) *maker {
	return &maker{Rand: r, scans: map[string]bool{}, leaves: map[int]bool{}, plain: true}
}

func (m *maker) kind() api.Kind { return api.Kind(1 + m.IntN(3)) }

func (m *maker) kinds(most int) []api.Kind {
	var out []api.Kind
	for range 1 + m.IntN(most) {
		out = append(out, m.kind())
	}
	return out
}

func (m *maker) bool() bool { return m.IntN(2) == 0 }

func (m *maker) cols(want []api.Kind) []api.Col {
	var out []api.Col
	for _, k := range want {
		out = append(out, api.Col{Kind: k, Null: m.bool()})
	}
	return out
}

func (m *maker) value(c api.Col) api.Value {
	switch {
	case c.Null && m.IntN(3) == 0:
		return api.Value{}
	case c.Kind == api.Int:
		return number(int64(m.IntN(30) - 15))
	case c.Kind == api.Bool:
		return api.Value{Kind: api.Bool, Int: int64(m.IntN(2))}
	}
	return api.Value{Kind: api.Text, Text: []string{"", "x", "'", ") (", "a, b", "scan(t)", "; [0]"}[m.IntN(7)]}
}

// kindsOf and withNulls take columns.
func kindsOf(cols []api.Col) []api.Kind {
	var out []api.Kind
	for _, c := range cols {
		out = append(out, c.Kind)
	}
	return out
}

func withNulls(cols []api.Col) []api.Col {
	var out []api.Col
	for _, c := range cols {
		out = append(out, api.Col{Kind: c.Kind, Null: true})
	}
	return out
}

// made is a relation, its columns and its string.
type made struct {
	rel  api.Rel
	cols []api.Col
	s    string
}

// rel makes a relation with columns of the kinds want, within outer rows, at most left + 1 deep.
func (m *maker) rel(want []api.Kind, outer []outerRow, left int) made {
	before, path := m.nodes, slices.Clone(m.path)
	m.nodes++
	kind := m.IntN(11)
	if left == 0 {
		kind = m.IntN(2)
	}
	var out made
	switch kind {
	case 0, 1:
		out = m.leaf(want)
	case 2:
		out = m.filter(want, outer, left)
	case 3, 4:
		out = m.mapped(want, outer, left)
	case 5, 6:
		out = m.join(want, outer, left)
	case 7:
		out = m.group(want, outer, left)
	case 8, 9:
		out = m.set(want, outer, left)
	case 10:
		out = m.sort(want, outer, left)
	}
	if m.inside == 0 {
		m.parts = append(m.parts, place{path, outer, out.cols, out.rel, m.nodes - before})
	}
	return out
}

// input is rel for the input i.
func (m *maker) input(i int, want []api.Kind, outer []outerRow, left int) made {
	m.path = append(m.path, i)
	out := m.rel(want, outer, left)
	m.path = m.path[:len(m.path)-1]
	return out
}

func (m *maker) leaf(want []api.Kind) made {
	tables := map[string]string{"t": "int int?", "u": "text bool?", "v": "bool text?"}
	for name, cols := range tables {
		if slices.Equal(kindsOf(columns(cols)), want) && m.IntN(3) > 0 {
			m.scans[name] = true
			return made{scan(name), columns(cols), "scan(" + name + ")"}
		}
	}
	cols := m.cols(want)
	if m.bool() {
		n := m.IntN(12)
		m.leaves[n] = true
		r := api.Rel{Op: api.RLeaf, N: n, Cols: cols}
		var sets []string
		for range m.IntN(3) {
			set := []int{}
			for i := range cols {
				if m.bool() {
					set = append(set, i)
				}
			}
			r.Sets = append(r.Sets, set)
			sets = append(sets, fmt.Sprint(set))
		}
		return made{r, cols, fmt.Sprintf("leaf(%d; %s; %s)", n, shown(cols), strings.Join(sets, " "))}
	}
	r := api.Rel{Op: api.RValues, Cols: cols}
	var lines []string
	for range m.IntN(4) {
		var line []api.Value
		for _, c := range cols {
			line = append(line, m.value(c))
		}
		r.Rows = append(r.Rows, line)
		s, _ := rows.String([][]api.Value{line})
		lines = append(lines, strings.TrimSpace(s))
	}
	return made{r, cols, fmt.Sprintf("values(%s; %s)", shown(cols), strings.Join(lines, " "))}
}

func (m *maker) filter(want []api.Kind, outer []outerRow, left int) made {
	x := m.input(0, want, outer, left-1)
	e, _, s := m.expr(api.Bool, x.cols, outer, left-1)
	return made{filter(e, x.rel), x.cols, fmt.Sprintf("filter(%s, %s)", s, x.s)}
}

func (m *maker) mapped(want []api.Kind, outer []outerRow, left int) made {
	x := m.input(0, m.kinds(3), outer, left-1)
	r := mapped(x.rel)
	var cols []api.Col
	s := "map("
	for _, k := range want {
		e, null, item := m.expr(k, x.cols, outer, left-1)
		r.Exprs = append(r.Exprs, e)
		cols = append(cols, api.Col{Kind: k, Null: null})
		s += item + ", "
	}
	return made{r, cols, s + x.s + ")"}
}

// join makes an RJoin or an RApply.
func (m *maker) join(want []api.Kind, outer []outerRow, left int) made {
	how := api.Join(m.IntN(5))
	if len(want) == 1 {
		how = api.Semi + api.Join(m.IntN(2))
	}
	first, second := want, m.kinds(2)
	if how <= api.Full {
		at := 1 + m.IntN(len(want)-1)
		first, second = want[:at], want[at:]
	}
	word := []string{"inner", "left", "full", "semi", "anti"}[how]
	x := m.input(0, first, outer, left-1)
	if how != api.Full && m.bool() {
		m.plain = false
		n := 1 + m.IntN(3)
		y := m.input(1, second, append(slices.Clone(outer), outerRow{n, x.cols}), left-1)
		return made{apply(n, how, x.rel, y.rel), joined(how, x.cols, y.cols), fmt.Sprintf("apply(%d, %s, %s, %s)", n, word, x.s, y.s)}
	}
	y := m.input(1, second, outer, left-1)
	e, _, s := m.expr(api.Bool, slices.Concat(x.cols, y.cols), outer, left-1)
	return made{join(how, e, x.rel, y.rel), joined(how, x.cols, y.cols), fmt.Sprintf("join(%s, %s, %s, %s)", word, s, x.s, y.s)}
}

func joined(how api.Join, x, y []api.Col) []api.Col {
	if how == api.Semi || how == api.Anti {
		return x
	}
	if how == api.Full {
		x = withNulls(x)
	}
	if how != api.Inner {
		y = withNulls(y)
	}
	return slices.Concat(x, y)
}

func (m *maker) group(want []api.Kind, outer []outerRow, left int) made {
	var in []api.Kind
	r := group(api.Rel{}, nil)
	by := m.IntN(len(want) + 1)
	for _, k := range want[:by] {
		if m.IntN(3) == 0 {
			in = append(in, m.kind())
		}
		r.Group = append(r.Group, len(in))
		in = append(in, k)
	}
	s := fmt.Sprintf("group(%v, ", append([]int{}, r.Group...))
	for _, k := range want[by:] {
		call := api.Call{Fn: api.Fn(4 + m.IntN(3)), Col: len(in)}
		of := k
		if k == api.Int {
			call.Fn = api.Fn(1 + m.IntN(6))
		}
		if call.Fn == api.Some {
			of = m.kind()
		}
		word := []string{"", "count", "some", "sum", "min", "max", "only"}[call.Fn]
		if call.Fn == api.Count {
			call.Col = 0
			s += "count, "
		} else if (call.Fn == api.Some || call.Fn == api.Sum) && m.bool() {
			call.Distinct = true
			s += fmt.Sprintf("%s(distinct $%d), ", word, call.Col)
		} else {
			s += fmt.Sprintf("%s($%d), ", word, call.Col)
		}
		r.Calls = append(r.Calls, call)
		in = append(in, of)
	}
	x := m.input(0, in, outer, left-1)
	var cols []api.Col
	for _, at := range r.Group {
		cols = append(cols, x.cols[at])
	}
	for i, k := range want[by:] {
		cols = append(cols, api.Col{Kind: k, Null: r.Calls[i].Fn > api.Some})
	}
	r.Ins = []api.Rel{x.rel}
	return made{r, cols, s + x.s + ")"}
}

// set makes an RUnion, RBoth or RMinus.
func (m *maker) set(want []api.Kind, outer []outerRow, left int) made {
	x, y := m.input(0, want, outer, left-1), m.input(1, want, outer, left-1)
	cols := slices.Clone(x.cols)
	all := m.bool()
	s := ""
	if all {
		s = "all, "
	}
	switch m.IntN(3) {
	case 0:
		r, s := union(x.rel, y.rel), "union("+x.s+", "+y.s
		ins := [][]api.Col{y.cols}
		for i := range m.IntN(3) {
			z := m.input(2+i, want, outer, left-1)
			r.Ins = append(r.Ins, z.rel)
			ins = append(ins, z.cols)
			s += ", " + z.s
		}
		for _, in := range ins {
			for i := range cols {
				cols[i].Null = cols[i].Null || in[i].Null
			}
		}
		return made{r, cols, s + ")"}
	case 1:
		for i := range cols {
			cols[i].Null = cols[i].Null && y.cols[i].Null
		}
		return made{both(all, x.rel, y.rel), cols, fmt.Sprintf("both(%s%s, %s)", s, x.s, y.s)}
	}
	return made{minus(all, x.rel, y.rel), cols, fmt.Sprintf("minus(%s%s, %s)", s, x.s, y.s)}
}

func (m *maker) sort(want []api.Kind, outer []outerRow, left int) made {
	x := m.input(0, want, outer, left-1)
	var keys []api.Key
	var words []string
	for _, at := range m.Perm(len(want))[:m.IntN(len(want)+1)] {
		k := api.Key{Col: at, Desc: m.bool()}
		keys = append(keys, k)
		words = append(words, strconv.Itoa(at)+map[bool]string{true: "-"}[k.Desc])
	}
	offset, fetch := m.IntN(4), m.IntN(4)-1
	return made{sorted(x.rel, offset, fetch, keys...), x.cols, fmt.Sprintf("sort([%s], %d, %d, %s)", strings.Join(words, " "), offset, fetch, x.s)}
}

// expr makes an expression of a kind, on rows with the columns on, at most left + 1 deep. It returns whether it may be null,
// and its string, too.
func (m *maker) expr(kind api.Kind, on []api.Col, outer []outerRow, left int) (api.Expr, bool, string) {
	m.nodes++
	if left <= 0 || m.IntN(5) == 0 {
		return m.smallExpr(kind, on, outer)
	}
	if m.IntN(7) == 0 {
		return m.query(kind, on, outer, left)
	}
	ops := map[api.Kind][]string{
		api.Int:  {"add", "sub", "mul", "div", "mod", "neg", "length", "case", "coalesce"},
		api.Bool: {"eq", "ne", "lt", "le", "gt", "ge", "same", "and", "or", "not", "isnull", "istrue", "case", "coalesce"},
		api.Text: {"concat", "case", "coalesce"},
	}[kind]
	word := ops[m.IntN(len(ops))]
	var of []api.Kind
	switch word {
	case "neg":
		of = []api.Kind{api.Int}
	case "length":
		of = []api.Kind{api.Text}
	case "not", "istrue":
		of = []api.Kind{api.Bool}
	case "isnull":
		of = []api.Kind{m.kind()}
	case "and", "or", "coalesce":
		of = slices.Repeat([]api.Kind{kind}, 2+m.IntN(2))
	case "case":
		of = []api.Kind{api.Bool, kind, kind}
	case "eq", "ne", "lt", "le", "gt", "ge", "same":
		of = slices.Repeat([]api.Kind{m.kind()}, 2)
	default:
		of = slices.Repeat([]api.Kind{kind}, 2)
	}
	args, nulls, items := m.exprs(of, on, outer, left-1)
	e := ex(map[int]string{1: word + "($0)", 2: word + "($0, $1)", 3: word + "($0, $1, $2)"}[len(of)])
	e.Args = args
	null := slices.Contains(nulls, true)
	switch word {
	case "div", "mod":
		null = true
	case "same", "isnull", "istrue":
		null = false
	case "case":
		null = nulls[1] || nulls[2]
	case "coalesce":
		null = !slices.Contains(nulls, false)
	}
	return e, null, word + "(" + strings.Join(items, ", ") + ")"
}

func (m *maker) exprs(of []api.Kind, on []api.Col, outer []outerRow, left int) (args []api.Expr, nulls []bool, items []string) {
	for _, k := range of {
		e, null, s := m.expr(k, on, outer, left)
		args, nulls, items = append(args, e), append(nulls, null), append(items, s)
	}
	return args, nulls, items
}

// smallExpr makes a column, one of an outer row, or a literal.
func (m *maker) smallExpr(kind api.Kind, on []api.Col, outer []outerRow) (api.Expr, bool, string) {
	for _, at := range m.Perm(len(on)) {
		if on[at].Kind == kind && m.IntN(3) > 0 {
			return ex("$" + strconv.Itoa(at)), on[at].Null, "$" + strconv.Itoa(at)
		}
	}
	for i, row := range slices.Backward(outer) {
		if slices.ContainsFunc(outer[i+1:], func(o outerRow) bool { return o.n == row.n }) {
			continue // another one is nearer
		}
		for at, c := range row.cols {
			if s := fmt.Sprintf("^%d.%d", row.n, at); c.Kind == kind && m.bool() {
				return ex(s), c.Null, s
			}
		}
	}
	v := m.value(api.Col{Kind: kind, Null: true})
	e := api.Expr{Op: api.OLit, Kind: kind, Lit: v}
	s, _ := scalar.String(e)
	return e, v == api.Value{}, s
}

// query makes an OExists, OIn or OOne.
func (m *maker) query(kind api.Kind, on []api.Col, outer []outerRow, left int) (api.Expr, bool, string) {
	m.plain = false
	n := 1 + m.IntN(3)
	inner := append(slices.Clone(outer), outerRow{n, on})
	if kind != api.Bool || m.IntN(3) == 0 {
		q := m.within([]api.Kind{kind}, inner, left-1)
		return one(n, q.rel), true, fmt.Sprintf("one(%d, %s)", n, q.s)
	}
	if m.bool() {
		q := m.within(m.kinds(3), inner, left-1)
		return exists(n, q.rel), false, fmt.Sprintf("exists(%d, %s)", n, q.s)
	}
	of := m.kinds(2)
	args, nulls, items := m.exprs(of, on, outer, left-1)
	q := m.within(of, inner, left-1)
	null := slices.Contains(nulls, true) || slices.ContainsFunc(q.cols, func(c api.Col) bool { return c.Null })
	return in(n, q.rel, args...), null, fmt.Sprintf("in(%d, %s, %s)", n, strings.Join(items, ", "), q.s)
}

// within is rel for a relation of an expression, which is no part.
func (m *maker) within(want []api.Kind, outer []outerRow, left int) made {
	m.inside++
	out := m.rel(want, outer, max(0, left))
	m.inside--
	return out
}

func TestRandom(t *testing.T) {
	t.Parallel()
	b := shopBase()
	r := rand.New(rand.NewPCG(6, 1))
	large := 0
	for i := range 1500 {
		m := newMaker(r)
		x := m.rel(m.kinds(4), nil, 2+i%9)
		if e := algebra.Check(b, x.rel); (e == api.OK) != (m.nodes <= api.MaxNodes) || e != api.OK && e != api.ErrRel {
			t.Fatalf("%s: %v", x.s, e)
		}
		if m.nodes > api.MaxNodes {
			large++
			if len(x.s) <= api.MaxString {
				noRel(t, x.s)
			}
			continue
		}
		checkMade(t, b, m, x)
		checkParts(t, b, m, x)
	}
	if large < 10 {
		t.Errorf("only %d relations were too large", large)
	}
}

// checkMade compares what algebra says of x with what its maker says.
func checkMade(t *testing.T, b api.Base, m *maker, x made) {
	t.Helper()
	if cols, e := algebra.Cols(b, x.rel); !slices.Equal(cols, x.cols) || e != api.OK {
		t.Errorf("%s: Cols: %v, %v, not %v", x.s, cols, e, x.cols)
	}
	if is, e := algebra.Plain(b, x.rel); is != m.plain || e != api.OK {
		t.Errorf("%s: Plain: %v, %v", x.s, is, e)
	}
	if l, e := algebra.Scans(b, x.rel); !slices.Equal(l, slices.Sorted(maps.Keys(m.scans))) || e != api.OK {
		t.Errorf("%s: Scans: %v, %v", x.s, l, e)
	}
	if l, e := algebra.Leaves(b, x.rel); !slices.Equal(l, slices.Sorted(maps.Keys(m.leaves))) || e != api.OK {
		t.Errorf("%s: Leaves: %v, %v", x.s, l, e)
	}
	if n, e := algebra.Nodes(b, x.rel); n != m.nodes || e != api.OK {
		t.Errorf("%s: Nodes: %d, %v, not %d", x.s, n, e, m.nodes)
	}
	// P6.5
	if s, e := algebra.String(b, x.rel); s != x.s || e != api.OK {
		t.Errorf("String: %s, %v, not %s", s, e, x.s)
	}
	back, e := algebra.Parse(b, x.s)
	if !equal(back, x.rel) || e != api.OK {
		t.Errorf("%s: Parse: %v, %v", x.s, back, e)
	}
	if is, e := algebra.Same(b, back, x.rel); !is || e != api.OK {
		t.Errorf("%s: Same: %v, %v", x.s, is, e)
	}
}

// checkParts: P6.4
func checkParts(t *testing.T, b api.Base, m *maker, x made) {
	t.Helper()
	for _, p := range m.parts {
		part, e := algebra.At(b, x.rel, p.path)
		if !equal(part, p.rel) || e != api.OK {
			t.Errorf("%s: At %v: %v, %v", x.s, p.path, part, e)
		}
		back, e := algebra.Replace(b, x.rel, p.path, part)
		if !equal(back, x.rel) || e != api.OK {
			t.Errorf("%s: Replace %v by itself: %v, %v", x.s, p.path, back, e)
		}
		if _, e := algebra.At(b, x.rel, append(slices.Clone(p.path), len(p.rel.Ins))); e != api.ErrNone {
			t.Errorf("%s: behind the inputs of %v: %v", x.s, p.path, e)
		}
	}
	p := m.parts[m.IntN(len(m.parts))]
	other := newMaker(m.Rand)
	by := other.rel(kindsOf(p.cols), p.outer, 4)
	want := api.OK
	if other.nodes > api.MaxNodes {
		want = api.ErrRel
	} else if m.nodes-p.nodes+other.nodes > api.MaxNodes {
		want = api.ErrLarge
	}
	out, e := algebra.Replace(b, x.rel, p.path, by.rel)
	if e != want {
		t.Errorf("%s: Replace %v by %s: %v, not %v", x.s, p.path, by.s, e, want)
	}
	if part, f := algebra.At(b, out, p.path); e == api.OK && (!equal(part, by.rel) || f != api.OK) {
		t.Errorf("%s: Replace %v by %s: %v", x.s, p.path, by.s, part)
	}
	if _, e := algebra.Replace(b, x.rel, p.path, filter(outerOf(9, 0), p.rel)); e != api.ErrRel {
		t.Errorf("%s: Replace %v by what has no outer row: %v", x.s, p.path, e)
	}
	more := append(kindsOf(p.cols), api.Int)
	if _, e := algebra.Replace(b, x.rel, p.path, newMaker(m.Rand).rel(more, p.outer, 1).rel); e != api.ErrArg {
		t.Errorf("%s: Replace %v by what has more columns: %v", x.s, p.path, e)
	}
}
