package logic_test

import (
	"math/rand/v2"
	"reflect"
	"slices"
	"strings"
	"testing"

	"tactician/api"
	"tactician/logic"
	"tactician/scalar"
)

var (
	null = api.Value{}
	yes  = api.Value{Kind: api.Bool, Int: 1}
	no   = api.Value{Kind: api.Bool}
)

func number(n int64) api.Value { return api.Value{Kind: api.Int, Int: n} }

func text(s string) api.Value { return api.Value{Kind: api.Text, Text: s} }

func col(n int) api.Expr { return api.Expr{Op: api.OCol, N: n} }

func lit(v api.Value) api.Expr { return api.Expr{Op: api.OLit, Kind: v.Kind, Lit: v} }

func nullOf(k api.Kind) api.Expr { return api.Expr{Op: api.OLit, Kind: k} }

func node(op api.Op, args ...api.Expr) api.Expr { return api.Expr{Op: op, Args: args} }

// The columns of cols: of each kind one that is not null, and one that may be.
//
// $0 int, $1 int null, $2 text null, $3 bool null, $4 bool, $5 text, $6 int null
func cols() []api.Col {
	return []api.Col{
		{Kind: api.Int}, {Kind: api.Int, Null: true}, {Kind: api.Text, Null: true}, {Kind: api.Bool, Null: true},
		{Kind: api.Bool}, {Kind: api.Text}, {Kind: api.Int, Null: true},
	}
}

func parse(s string) api.Expr {
	e, f := scalar.Parse(s)
	if f != api.OK {
		panic(s)
	}
	return e
}

// shown is the string of what a call returns: of an expression, or of an error, beside which there is none.
func shown(e api.Expr, f api.Errno) string {
	if f != api.OK {
		if !reflect.DeepEqual(e, api.Expr{}) {
			return "an expression beside an error"
		}
		return "error " + errorName(f)
	}
	s, f := scalar.String(e)
	if f != api.OK {
		return "no expression"
	}
	return s
}

func errorName(f api.Errno) string {
	return map[api.Errno]string{
		api.OK: "ok", api.ErrArg: "arg", api.ErrLarge: "large", api.ErrRows: "rows", api.ErrExpr: "expr", api.ErrKinds: "kinds",
	}[f]
}

// values has values for a column of cols.
func values(c api.Col) []api.Value {
	l := map[api.Kind][]api.Value{
		api.Int:  {number(0), number(1), number(2), number(3), number(-4)},
		api.Bool: {no, yes},
		api.Text: {text(""), text("a"), text("b"), text("c")},
	}[c.Kind]
	if c.Null {
		return append(l, null)
	}
	return l
}

// aRow is a row that fits.
func aRow(r *rand.Rand, cols []api.Col) []api.Value {
	var out []api.Value
	for _, c := range cols {
		l := values(c)
		out = append(out, l[r.IntN(len(l))])
	}
	return out
}

// anExpr is an expression of a kind on cols, of some depth.
func anExpr(r *rand.Rand, cols []api.Col, kind api.Kind, depth int) api.Expr {
	if depth == 0 || r.IntN(6) == 0 {
		return aLeaf(r, cols, kind)
	}
	some := func(k api.Kind) api.Expr { return anExpr(r, cols, k, depth-1) }
	switch r.IntN(5) {
	case 0:
		args := []api.Expr{some(kind), some(kind)}
		for len(args) < 4 && r.IntN(2) == 0 {
			args = append(args, some(kind))
		}
		return node(api.OCoalesce, args...)
	case 1:
		args := []api.Expr{some(kind)}
		for ok := true; ok; ok = len(args) < 7 && r.IntN(2) == 0 {
			args = append([]api.Expr{some(api.Bool), some(kind)}, args...)
		}
		return node(api.OCase, args...)
	}
	if kind == api.Text {
		return node(api.OConcat, some(kind), some(kind))
	}
	if kind == api.Int {
		op := api.OAdd + api.Op(r.IntN(7))
		if op == api.OConcat {
			return node(api.OLength, some(api.Text))
		}
		if op == api.ONeg {
			return node(op, some(kind))
		}
		return node(op, some(kind), some(kind))
	}
	of := api.Int + api.Kind(r.IntN(3))
	switch op := api.OEq + api.Op(r.IntN(14)); op {
	case api.ONot, api.OIsTrue:
		return node(op, some(kind))
	case api.OIsNull:
		return node(op, some(of))
	case api.OAnd, api.OOr, api.OCase, api.OCoalesce:
		args := []api.Expr{some(kind), some(kind)}
		for len(args) < 4 && r.IntN(2) == 0 {
			args = append(args, some(kind))
		}
		return node(api.OAnd+op%2, args...)
	default:
		return node(min(op, api.OSame), some(of), some(of))
	}
}

func aLeaf(r *rand.Rand, cols []api.Col, kind api.Kind) api.Expr {
	if r.IntN(2) == 0 {
		l := values(api.Col{Kind: kind, Null: true})
		e := lit(l[r.IntN(len(l))])
		e.Kind = kind
		return e
	}
	for {
		if n := r.IntN(len(cols)); cols[n].Kind == kind {
			return col(n)
		}
	}
}

// P4.1 to P4.4: the errors, and their order.
func TestErrors(t *testing.T) {
	deep := col(3)
	for range api.MaxDepth {
		deep = node(api.ONot, deep)
	}
	large := make([]api.Col, api.MaxCols+1)
	for i := range large {
		large[i] = api.Col{Kind: api.Bool}
	}
	one := func(e api.Expr, cols []api.Col, set []int) []api.Errno {
		x, f := logic.Condition(e, cols)
		is, g := logic.Rejects(e, cols, set)
		p, h := logic.Pins(e, cols)
		c, i := logic.Classes(e, cols)
		to, j := logic.Implies(e, e, cols)
		if !reflect.DeepEqual(x, api.Expr{}) || is || len(p) > 0 || len(c) > 0 || to {
			t.Errorf("%v: a result beside an error", e)
		}
		return []api.Errno{f, g, h, i, j}
	}
	for _, c := range []struct {
		name string
		e    api.Expr
		cols []api.Col
		set  []int
		want api.Errno
	}{
		{"no columns, no expression", api.Expr{}, nil, []int{9}, api.ErrRows},
		{"too many columns", col(0), large, nil, api.ErrRows},
		{"a column of no kind", col(0), []api.Col{{}}, nil, api.ErrRows},
		{"no expression", api.Expr{}, cols(), []int{9}, api.ErrExpr},
		{"no expression in it", node(api.ONot, api.Expr{}), cols(), nil, api.ErrExpr},
		{"too deep", deep, cols(), []int{-1}, api.ErrExpr},
		{"no column", col(7), cols(), []int{-1}, api.ErrKinds},
		{"an outer row", api.Expr{Op: api.OOuter, N: 1}, cols(), nil, api.ErrKinds},
		{"kinds", node(api.ONot, col(0)), cols(), []int{-1}, api.ErrKinds},
		{"a number", col(0), cols(), []int{-1}, api.ErrKinds},
		{"a text", lit(text("")), cols(), nil, api.ErrKinds},
	} {
		for i, f := range one(c.e, c.cols, c.set) {
			if f != c.want {
				t.Errorf("%s: call %d: %v, not %v", c.name, i, f, c.want)
			}
		}
		if _, f := logic.Simplify(c.e, c.cols); f != c.want && c.name != "a number" && c.name != "a text" {
			t.Errorf("%s: Simplify: %v, not %v", c.name, f, c.want)
		}
	}
	for _, set := range [][]int{{7}, {-1}, {0, 1, 7}} {
		if is, f := logic.Rejects(lit(no), cols(), set); is || f != api.ErrArg {
			t.Errorf("Rejects %v: %v %v", set, is, f)
		}
	}
}

// P4.4: which error Implies returns of those of p and q.
func TestImpliesErrors(t *testing.T) {
	large, one := tooLarge(), lit(number(1))
	for _, c := range []struct {
		name string
		p, q api.Expr
		want api.Errno
	}{
		{"p first", node(api.ONot, one), api.Expr{}, api.ErrKinds},
		{"q, though p is no condition", one, api.Expr{}, api.ErrExpr},
		{"q no condition", lit(no), one, api.ErrKinds},
		{"p no condition", one, lit(yes), api.ErrKinds},
		{"p too large, q no condition", large, one, api.ErrKinds},
		{"p too large", large, lit(yes), api.ErrLarge},
		{"q too large, though p is false", lit(no), large, api.ErrLarge},
	} {
		if is, f := logic.Implies(c.p, c.q, truths(true)); is || f != c.want {
			t.Errorf("%s: %v %v, not %v", c.name, is, f, c.want)
		}
	}
}

// truths are MaxCols columns of truths.
func truths(null bool) []api.Col {
	return slices.Repeat([]api.Col{{Kind: api.Bool, Null: null}}, api.MaxCols)
}

// turns has n ORs of all columns of truths, which are different ones.
func turns(n int) []api.Expr {
	var out []api.Expr
	for i := range n {
		var l []api.Expr
		for j := range api.MaxCols {
			l = append(l, col((i+j)%api.MaxCols))
		}
		out = append(out, node(api.OOr, l...))
	}
	return out
}

// tooLarge has the form, but no longer when its ONot has gone down.
func tooLarge() api.Expr {
	return node(api.ONot, node(api.OAnd, turns(api.MaxCols)...))
}

// P4.1 to P4.4: what becomes too large, and what is so on the way alone.
func TestTooLarge(t *testing.T) {
	large := tooLarge()
	x, f := logic.Simplify(large, truths(true))
	c, g := logic.Condition(large, truths(true))
	is, h := logic.Rejects(large, truths(true), []int{})
	p, i := logic.Pins(large, truths(true))
	l, j := logic.Classes(large, truths(true))
	if !reflect.DeepEqual([]any{x, c, is, len(p), len(l)}, []any{api.Expr{}, api.Expr{}, false, 0, 0}) {
		t.Errorf("results beside an error: %v %v %v %v %v", x, c, is, p, l)
	}
	for n, f := range []api.Errno{f, g, h, i, j} {
		if f != api.ErrLarge {
			t.Errorf("call %d: %v", n, f)
		}
	}
	all := []int{0, 1, 2, 3, 4, 5, 6, 7, 8, 9, 10, 11, 12, 13, 14, 15}
	if is, f := logic.Rejects(large, truths(true), all); !is || f != api.OK {
		t.Errorf("Rejects with null everywhere: %v %v", is, f)
	}
	for _, c := range []struct {
		e    api.Expr
		want string
	}{
		{node(api.OAnd, large, lit(no)), "false"},
		{node(api.OOr, large, lit(yes)), "true"},
		{node(api.OIsNull, large), "false"},
		{node(api.OSame, large, lit(yes)), "error large"},
		{node(api.OCase, col(2), large, col(1), col(1), col(1)), "error large"},
		{node(api.OCase, lit(no), large, col(1)), "$1"},
		{node(api.OIsNull, node(api.OCase, col(2), large, col(1))), "false"},
		{node(api.OCoalesce, col(0), large), "$0"},
	} {
		if got := shown(logic.Simplify(c.e, truths(false))); got != c.want {
			t.Errorf("%v: %s, not %s", c.e.Op, got, c.want)
		}
	}
	// what may be null may be so also where it is too large
	for _, e := range []api.Expr{large, node(api.ONot, node(api.OCase, col(2), large, col(1)))} {
		if got := shown(logic.Simplify(node(api.OIsNull, e), truths(true))); got != "error large" {
			t.Errorf("OIsNull of what may be null: %s", got)
		}
	}
	// of 12 ORs the ONot makes 12 * 17 nodes 12 * 33: just as many as there may be, with the node above
	if got := shown(logic.Simplify(node(api.ONot, node(api.OAnd, turns(12)...)), truths(true))); strings.Count(got, "(") != 13+12*16 {
		t.Errorf("397 nodes: %s", got)
	}
}

// P4.1 to P4.4, R4: results are new memory, and arguments stay.
func TestMemory(t *testing.T) {
	r := rand.New(rand.NewPCG(4, 4))
	for range 2000 {
		e := padded(anExpr(r, cols(), api.Bool, 3))
		before := clone(e)
		a, f := logic.Simplify(e, cols())
		b, g := logic.Condition(e, cols())
		c, h := logic.Condition(e, cols())
		if f != api.OK || g != api.OK || h != api.OK {
			t.Fatalf("%v %v %v", f, g, h)
		}
		logic.Rejects(e, cols(), []int{1, 3})
		logic.Pins(e, cols())
		logic.Classes(e, cols())
		logic.Implies(e, e, cols())
		if !reflect.DeepEqual(clone(e), before) {
			t.Fatalf("changed: %v", before)
		}
		seen := map[*api.Expr]bool{}
		for _, x := range []api.Expr{e, a, b, c} {
			if !isNew(x, seen) {
				t.Fatalf("memory is shared: %s", shown(a, api.OK))
			}
		}
	}
	set := []int{3, 1, 3}
	logic.Rejects(col(3), cols(), set)
	if !slices.Equal(set, []int{3, 1, 3}) {
		t.Error("the set is changed")
	}
	classes, _ := logic.Classes(parse("and(eq($0, $1), eq($2, $5))"), cols())
	for i := range classes {
		_ = append(classes[i], 99)
	}
	if !reflect.DeepEqual(classes, [][]int{{0, 1}, {2, 5}}) {
		t.Errorf("classes share memory: %v", classes)
	}
}

// padded is e with room behind each list, in which there is what must stay.
func padded(e api.Expr) api.Expr {
	if len(e.Args) == 0 {
		return e
	}
	l := make([]api.Expr, len(e.Args), len(e.Args)+2)
	for i, a := range e.Args {
		l[i] = padded(a)
	}
	l[:len(l)+2][len(l)] = api.Expr{Op: 77}
	e.Args = l
	return e
}

// clone is e with what lies behind each list.
func clone(e api.Expr) api.Expr {
	l := e.Args[:cap(e.Args)]
	e.Args = nil
	for _, a := range l {
		e.Args = append(e.Args, clone(a))
	}
	return e
}

// isNew tells whether no list of e is seen.
func isNew(e api.Expr, seen map[*api.Expr]bool) bool {
	if len(e.Args) == 0 {
		return true
	}
	if seen[&e.Args[0]] {
		return false
	}
	seen[&e.Args[0]] = true
	return !slices.ContainsFunc(e.Args, func(a api.Expr) bool { return !isNew(a, seen) })
}
