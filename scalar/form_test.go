package scalar_test

import (
	"math"
	"slices"
	"strings"
	"testing"

	"tactician/api"
	"tactician/scalar"
)

// rightNodes has a node of each form.
func rightNodes() []api.Expr {
	out := []api.Expr{
		col(0), col(1), col(15), col(16), col(math.MaxInt),
		outer(1, 0), outer(2, 7), outer(math.MaxInt, math.MaxInt),
		nullOf(api.Int), nullOf(api.Bool), nullOf(api.Text),
	}
	for _, k := range []api.Kind{api.Int, api.Bool, api.Text} {
		for _, v := range fitting(k) {
			out = append(out, lit(v))
		}
	}
	for op := api.OAdd; op <= api.OCoalesce; op++ {
		for _, n := range counts(op) {
			out = append(out, node(op, columns(n)...))
		}
	}
	return out
}

// broken are nodes that differ from e, which has the form, in one field, and have it no more.
func broken(e api.Expr) []api.Expr {
	var out []api.Expr
	change := func(by func(x *api.Expr)) {
		x := deep(e)
		by(&x)
		out = append(out, x)
	}
	numbers := []int{-1, 1, 7, math.MinInt, math.MaxInt}
	for _, n := range numbers {
		if e.Op != api.OCol && e.Op != api.OOuter || n < 0 {
			change(func(x *api.Expr) { x.N = n })
		}
		if e.Op != api.OOuter || n < 0 {
			change(func(x *api.Expr) { x.M = n })
		}
	}
	if e.Op == api.OOuter {
		change(func(x *api.Expr) { x.N = 0 })
	}
	for _, k := range []api.Kind{-1, api.Null, api.Int, api.Bool, api.Text, 4, math.MaxInt} {
		if k != e.Kind && (e.Op != api.OLit || e.Lit != null || k < api.Int || k > api.Text) {
			change(func(x *api.Expr) { x.Kind = k })
		}
	}
	for _, v := range []api.Value{
		number(0), number(1), yes, no, text(""), text("a"), none, {Int: 1}, {Text: "a"}, {Kind: 4}, {Kind: -1},
		{Kind: e.Kind, Text: strings.Repeat("a", api.MaxText+1)}, {Kind: e.Kind, Int: 5, Text: "a"}, {Kind: e.Kind, Text: "\n"},
	} {
		isValue := v.Kind >= api.Int && v.Kind <= api.Text && v != none && len(v.Text) < 2 && v.Text != "\n" && (v.Int == 0 || v.Text == "")
		if e.Op != api.OLit || !isValue || v.Kind != e.Kind {
			change(func(x *api.Expr) { x.Lit = v })
		}
	}
	change(func(x *api.Expr) { x.Rels = make([]api.Rel, 1) })
	change(func(x *api.Expr) { x.Rels = []api.Rel{{Op: api.RLeaf, Cols: sixCols()}} })
	for n := range api.MaxCols + 3 {
		if e.Op < api.OAdd && n > 0 || e.Op >= api.OAdd && !slices.Contains(counts(e.Op), n) {
			change(func(x *api.Expr) { x.Args = columns(n) })
		}
	}
	return out
}

// brokenOnes are data that have not the form, at the root or below.
func brokenOnes() []api.Expr {
	out := []api.Expr{
		{}, {Op: -1}, {Op: 29}, {Op: math.MaxInt}, {Op: math.MinInt}, {Op: 99, Args: columns(2)},
		{Op: api.OExists}, {Op: api.OExists, N: 1}, {Op: api.OExists, N: 1, Rels: []api.Rel{{Op: api.RLeaf, Cols: sixCols()}}},
		{Op: api.OIn, N: 1, Args: columns(1), Rels: []api.Rel{{Op: api.RLeaf, Cols: sixCols()[:1]}}}, {Op: api.OIn, Args: columns(2)},
		{Op: api.OOne, N: 1, Rels: []api.Rel{{Op: api.RLeaf, Cols: sixCols()[:1]}}}, {Op: api.OOne, Args: columns(2)},
		{Op: api.OAnd, Args: make([]api.Expr, 1<<20)}, {Op: api.OAnd, Args: slices.Repeat(columns(1), api.MaxCols+1)},
		chain(25, col(0)), chain(1000, col(0)), wide(401, col(0)), wide(5000, col(0)), itself(), doubled(24), doubled(1000),
	}
	for _, e := range rightNodes()[:10] {
		out = append(out, broken(e)...)
	}
	for op := api.OAdd; op <= api.OCoalesce; op++ {
		n := counts(op)[0]
		out = append(out, broken(node(op, columns(n)...))...)
		for i := range n {
			args := columns(n)
			args[i] = api.Expr{Op: api.OCol, N: -1}
			out = append(out, node(op, args...))
		}
	}
	return out
}

// itself has itself among its Args.
func itself() api.Expr {
	e := node(api.OAnd, col(0), col(1))
	e.Args[1] = e
	return e
}

// doubled has, at each of so many levels, the list of the level below twice: no more memory than a chain, but very many nodes.
func doubled(levels int) api.Expr {
	e := col(0)
	for range levels - 1 {
		e = node(api.OAdd, e, e)
	}
	return e
}

func TestCheck(t *testing.T) {
	for _, e := range rightNodes() {
		if f := scalar.Check(e); f != api.OK {
			t.Errorf("%s: %v", shown(e), f)
		}
		for _, x := range broken(e) {
			if f := scalar.Check(x); f != api.ErrExpr {
				t.Errorf("%s, changed to %v: %v, not ErrExpr", shown(e), x, f)
			}
			if f := scalar.Check(node(api.OCase, col(0), node(api.OAdd, col(1), x), col(1))); f != api.ErrExpr {
				t.Errorf("%s, changed to %v, below: %v, not ErrExpr", shown(e), x, f)
			}
		}
	}
	for _, e := range brokenOnes() {
		if f := scalar.Check(e); f != api.ErrExpr {
			t.Errorf("Op %d: %v, not ErrExpr", e.Op, f)
		}
	}
}

// Empty lists are as none.
func TestCheckEmptyLists(t *testing.T) {
	for _, e := range rightNodes() {
		e.Rels = []api.Rel{}
		if len(e.Args) == 0 {
			e.Args = []api.Expr{}
		}
		if f := scalar.Check(e); f != api.OK {
			t.Errorf("%s: %v", shown(e), f)
		}
	}
}

// Kinds do not matter for the form.
func TestCheckKinds(t *testing.T) {
	for _, s := range []string{"add('a', true)", "and(1, 'a')", "case(1, 2, 'a')", "neg(null:bool)", "coalesce(1, 'a')", "eq(1, 'a')", "length(5)"} {
		if f := scalar.Check(parse(s)); f != api.OK {
			t.Errorf("%s: %v", s, f)
		}
	}
}

func TestCheckSize(t *testing.T) {
	for n := 1; n <= 420; n++ {
		e := wide(n, col(n))
		if nodes(e) != n || depth(e) > 10 {
			t.Fatalf("wide of %d: %d nodes, %d deep", n, nodes(e), depth(e))
		}
		want := api.OK
		if n > api.MaxNodes {
			want = api.ErrExpr
		}
		if f := scalar.Check(e); f != want {
			t.Errorf("%d nodes: %v, not %v", n, f, want)
		}
	}
	for n := 1; n <= 40; n++ {
		want := api.OK
		if n > api.MaxDepth {
			want = api.ErrExpr
		}
		for _, e := range []api.Expr{chain(n, col(0)), chain(n, lit(yes)), chain(n, outer(1, 1))} {
			if f := scalar.Check(e); f != want {
				t.Errorf("%d deep: %v, not %v", n, f, want)
			}
		}
		if n > 1 {
			late := node(api.OCoalesce, col(0), col(1), chain(n-1, col(2)))
			if f := scalar.Check(late); f != want {
				t.Errorf("%d deep, in the last of the Args: %v, not %v", n, f, want)
			}
		}
	}
	if f := scalar.Check(doubled(8)); f != api.OK { // 255 nodes
		t.Errorf("shared lists: %v", f)
	}
	if f := scalar.Check(doubled(9)); f != api.ErrExpr { // 511 nodes
		t.Errorf("too many nodes by shared lists: %v", f)
	}
}

// calls are all calls that take an expression; every result must be zero next to an error.
func calls() map[string]func(e api.Expr) (bool, api.Errno) {
	cols := sixCols()
	row := []api.Value{number(1), null, yes, null, text("a"), null}
	zero := func(x api.Expr, f api.Errno) (bool, api.Errno) { return equal(x, api.Expr{}), f }
	return map[string]func(e api.Expr) (bool, api.Errno){
		"Check":          func(e api.Expr) (bool, api.Errno) { return true, scalar.Check(e) },
		"Kind":           func(e api.Expr) (bool, api.Errno) { c, f := scalar.Kind(e, cols); return c == api.Col{}, f },
		"Eval":           func(e api.Expr) (bool, api.Errno) { v, f := scalar.Eval(e, cols, row); return v == null, f },
		"Eval of no row": func(e api.Expr) (bool, api.Errno) { v, f := scalar.Eval(e, cols, nil); return v == null, f },
		"Columns":        func(e api.Expr) (bool, api.Errno) { l, f := scalar.Columns(e); return len(l) == 0, f },
		"Move":           func(e api.Expr) (bool, api.Errno) { return zero(scalar.Move(e, []int{0, 1, 2, 3, 4, 5})) },
		"Move to":        func(e api.Expr) (bool, api.Errno) { return zero(scalar.Move(e, nil)) },
		"Put":            func(e api.Expr) (bool, api.Errno) { return zero(scalar.Put(e, columns(20))) },
		"Put by none":    func(e api.Expr) (bool, api.Errno) { return zero(scalar.Put(e, nil)) },
		"Put by":         func(e api.Expr) (bool, api.Errno) { return zero(scalar.Put(col(9), []api.Expr{col(0), e})) },
		"Conjuncts":      func(e api.Expr) (bool, api.Errno) { l, f := scalar.Conjuncts(e); return len(l) == 0, f },
		"Joined":         func(e api.Expr) (bool, api.Errno) { return zero(scalar.Joined([]api.Expr{e})) },
		"Joined last":    func(e api.Expr) (bool, api.Errno) { return zero(scalar.Joined(append(columns(500), e))) },
		"Same":           func(e api.Expr) (bool, api.Errno) { is, f := scalar.Same(e, col(0)); return !is, f },
		"Same to":        func(e api.Expr) (bool, api.Errno) { is, f := scalar.Same(col(0), e); return !is, f },
		"Same twice":     func(e api.Expr) (bool, api.Errno) { is, f := scalar.Same(e, e); return !is, f },
		"String":         func(e api.Expr) (bool, api.Errno) { s, f := scalar.String(e); return s == "", f },
	}
}

// ErrExpr comes ahead of all other errors but those of columns.
func TestErrExpr(t *testing.T) {
	for name, call := range calls() {
		for _, e := range brokenOnes() {
			if zero, f := call(e); f != api.ErrExpr || !zero {
				t.Errorf("%s of Op %d: %v, not ErrExpr; zero: %v", name, e.Op, f, zero)
			}
		}
	}
}
