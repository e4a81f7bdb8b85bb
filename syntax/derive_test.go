package syntax_test

import (
	"math/rand"
	"strconv"
	"strings"

	"tactician/syntax"
)

// maker derives strings by the grammar, line by line, at random, and says of each which tree it has.
type maker struct {
	r       *rand.Rand
	left    int // how many nodes are still to be made; then there are only short ones
	depth   int // how often it is nested: each bracket, not, - and case counts
	deepest int
}

// in makes what is nested.
func in[A, B any](m *maker, make func() (A, B)) (A, B) {
	m.depth++
	m.deepest = max(m.deepest, m.depth)
	a, b := make()
	m.depth--
	return a, b
}

func (m *maker) chance(n int) bool {
	m.left--
	return m.left > 0 && m.r.Intn(n) == 0
}

func (m *maker) of(l ...string) string { return l[m.r.Intn(len(l))] }

func (m *maker) name() string { return m.of("a", "b", "c", "t", "u", "x_1", "sum", "count") }

// listed are some strings with commas, of elements which element makes.
func (m *maker) listed(element func() string) string {
	out := element()
	for m.chance(3) {
		out += " , " + element()
	}
	return out
}

// maybe is s, or nothing.
func (m *maker) maybe(s string) string {
	if m.r.Intn(2) == 0 {
		return s + " "
	}
	return ""
}

func (m *maker) query() (string, Query) {
	s, b := m.body()
	q := plain(b)
	if m.chance(6) {
		s += " order by " + m.listed(func() string {
			k := Key{Name: m.name(), Desc: m.chance(2)}
			if m.chance(2) {
				k.Name, k.At = "", 1+m.r.Intn(3)
			}
			q.Keys = append(q.Keys, k)
			return k.Name + strings.TrimPrefix(strconv.Itoa(k.At), "0") + " " + when(k.Desc, "desc") + when(!k.Desc, m.maybe("asc"))
		})
	}
	if m.chance(6) {
		q.Limit = m.r.Intn(3)
		s += " limit " + strconv.Itoa(q.Limit)
	}
	if m.chance(6) {
		q.Offset = m.r.Intn(3)
		s += " offset " + strconv.Itoa(q.Offset)
	}
	return s, q
}

func (m *maker) body() (string, Body) {
	s, out := m.part()
	for m.chance(6) {
		op := m.r.Intn(2)
		all := m.maybe("all")
		t, right := m.part()
		s += []string{" union ", " except "}[op] + all + t
		out = set([]int{syntax.Union, syntax.Except}[op], out, right)
		out.All = all != ""
	}
	return s, out
}

func (m *maker) part() (string, Body) {
	s, out := m.simple()
	for m.chance(8) {
		all := m.maybe("all")
		t, right := m.simple()
		s += " intersect " + all + t
		out = set(syntax.Intersect, out, right)
		out.All = all != ""
	}
	return s, out
}

func (m *maker) simple() (string, Body) {
	switch {
	case m.chance(7):
		out := Body{Op: syntax.Values}
		return "values " + m.listed(func() string {
			s, row := in(m, m.exprs)
			out.Rows = append(out.Rows, row)
			return "( " + s + " )"
		}), out
	case m.chance(8):
		s, q := in(m, m.query)
		return "( " + s + " )", sub(q)
	}
	return m.selected()
}

func (m *maker) selected() (string, Body) {
	out := Body{Op: syntax.Select}
	d := m.maybe("distinct")
	out.Distinct = d != ""
	s := "select " + d + m.listed(func() string {
		s, x := m.item()
		out.Items = append(out.Items, x)
		return s
	})
	if m.chance(2) {
		s += " from " + m.listed(func() string {
			s, x := m.source()
			out.From = append(out.From, x)
			return s
		})
	}
	if m.chance(4) {
		t, n := m.expr()
		s, out.Where = s+" where "+t, []Node{n}
	}
	if m.chance(5) {
		t, l := m.exprs()
		s, out.Group = s+" group by "+t, l
	}
	if m.chance(6) {
		t, n := m.expr()
		s, out.Having = s+" having "+t, []Node{n}
	}
	return s, out
}

func (m *maker) item() (string, Item) {
	switch m.r.Intn(8) {
	case 0:
		return "*", Item{Star: true}
	case 1:
		t := m.name()
		return t + " . *", Item{Star: true, Table: t}
	case 2:
		s, n := m.expr()
		as, x := m.maybe("as"), m.name()
		return s + " " + as + x, Item{Expr: []Node{n}, As: x}
	}
	s, n := m.expr()
	return s, item(n)
}

func (m *maker) source() (string, Source) {
	s, out := m.table()
	for m.chance(3) {
		op := m.r.Intn(5)
		t, right := m.table()
		word := []string{"cross", m.maybe("inner"), "left " + m.maybe("outer"), "right " + m.maybe("outer"), "full " + m.maybe("outer")}[op]
		s += " " + word + " join " + t
		out = join(syntax.Cross+op, out, right)
		if op > 0 {
			on, n := m.expr()
			s += " on " + on
			out.On = []Node{n}
		}
	}
	return s, out
}

func (m *maker) table() (string, Source) {
	as, x := m.maybe("as"), m.name()
	switch {
	case m.chance(5):
		s, q := in(m, m.query)
		return "( " + s + " ) " + as + x, derived(q, x)
	case m.chance(2):
		t := m.name()
		return t + " " + as + x, table(t, x)
	}
	return x, table(x, "")
}

// exprs are some expressions with commas.
func (m *maker) exprs() (string, []Node) {
	var out []Node
	s := m.listed(func() string {
		s, n := m.expr()
		out = append(out, n)
		return s
	})
	return s, out
}

// row is some operands, of which two are joined with the chance of one in n.
func (m *maker) row(n int, operand func() (string, Node), ops ...string) (string, Node) {
	s, out := operand()
	for m.chance(n) {
		op := m.of(ops...)
		t, right := operand()
		s, out = s+" "+op+" "+t, bin(out, op, right)
	}
	return s, out
}

func (m *maker) expr() (string, Node) { return m.row(7, m.conj, "or") }
func (m *maker) conj() (string, Node) { return m.row(6, m.neg, "and") }
func (m *maker) sum() (string, Node)  { return m.row(4, m.term, "+", "-", "||") }
func (m *maker) term() (string, Node) { return m.row(4, m.sign, "*", "/", "%") }

func (m *maker) neg() (string, Node) {
	if m.chance(6) {
		s, n := in(m, m.neg)
		return "not " + s, not(n)
	}
	return m.test()
}

func (m *maker) sign() (string, Node) {
	if m.chance(6) {
		s, n := in(m, m.sign)
		return "- " + s, minus(n)
	}
	return m.prim()
}

func (m *maker) test() (string, Node) {
	s, a := m.sum()
	if !m.chance(3) {
		return s, a
	}
	no := m.maybe("not")
	out := Node{Op: syntax.IsNull, Not: no != "", Args: []Node{a}}
	switch m.r.Intn(8) {
	case 0, 1:
		op := m.of("=", "<>", "<", "<=", ">", ">=")
		t, b := m.sum()
		return s + " " + op + " " + t, bin(a, op, b)
	case 2:
		return s + " is " + no + "null", out
	case 3:
		out.Op = syntax.IsTrue
		return s + " is " + no + "true", out
	case 4:
		t, b := m.sum()
		out.Op, out.Args = syntax.Differs, append(out.Args, b)
		return s + " is " + no + "distinct from " + t, out
	case 5:
		t, l := in(m, m.exprs)
		out.Op, out.Args = syntax.In, append(out.Args, l...)
		return s + " " + no + "in ( " + t + " )", out
	case 6:
		t, q := in(m, m.bare)
		out.Op, out.Query = syntax.In, []Query{q}
		return s + " " + no + "in ( " + t + " )", out
	}
	t, b := m.sum()
	u, c := m.sum()
	out.Op, out.Args = syntax.Between, append(out.Args, b, c)
	return s + " " + no + "between " + t + " and " + u, out
}

// bare is a query that begins with select or values.
func (m *maker) bare() (string, Query) {
	for deepest := m.deepest; ; m.deepest = deepest {
		s, q := m.query()
		if !strings.HasPrefix(s, "(") {
			return s, q
		}
	}
}

func (m *maker) prim() (string, Node) {
	if m.left <= 0 || m.r.Intn(2) == 0 {
		return m.short()
	}
	switch m.r.Intn(9) {
	case 0:
		s, q := in(m, m.query)
		return "exists ( " + s + " )", exists(q)
	case 1:
		return in(m, m.cases)
	case 2:
		s, q := in(m, m.bare)
		return "( " + s + " )", scalar(q)
	case 3, 4, 5, 6:
		s, l := in(m, m.exprs)
		if len(l) == 1 {
			return "( " + s + " )", l[0]
		}
		return "( " + s + " )", tuple(l...)
	}
	d, f := m.maybe("distinct"), m.name()
	s, l := in(m, m.exprs)
	return f + " ( " + d + s + " )", Node{Op: syntax.Call, Text: f, Distinct: d != "", Args: l}
}

func (m *maker) cases() (string, Node) {
	out := node(syntax.Case)
	s := "case"
	word := func(w string) {
		t, n := m.expr()
		s += " " + w + " " + t
		out.Args = append(out.Args, n)
	}
	for ok := true; ok; ok = m.chance(3) {
		word("when")
		word("then")
	}
	if m.chance(2) {
		word("else")
	}
	return s + " end", out
}

// short is a prim that has no other expression.
func (m *maker) short() (string, Node) {
	x, y := m.name(), m.name()
	switch m.r.Intn(9) {
	case 0:
		n := m.r.Int63n(3)
		return strconv.FormatInt(n, 10), num(n)
	case 1:
		return "'it''s'", str("it's")
	case 2:
		return "true", node(syntax.True)
	case 3:
		return "false", node(syntax.False)
	case 4:
		return "null", node(syntax.Nothing)
	case 5:
		return x + " ( * )", Node{Op: syntax.CountAll, Text: x}
	case 6:
		return x + " . " + y, of(x + "." + y)
	}
	return x, col(x)
}
