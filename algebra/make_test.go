package algebra_test

import (
	"slices"
	"strings"

	"tactician/algebra"
	"tactician/api"
	"tactician/base"
	"tactician/rows"
	"tactician/scalar"
)

// shop is a base with a column of each kind, without and with null.
const shop = "table t (a int, b int null) key (a)\ntable u (c text, d bool null)\ntable v (e bool, f text null)\n"

// shopBase returns the base of shop.
func shopBase() api.Base {
	b, e := base.Parse(shop)
	if e != api.OK {
		panic(e)
	}
	return b
}

// noBase is no base.
func noBase() api.Base { return api.Base{Tables: []api.Table{{Name: "t"}}} }

// read returns the relation on shop whose string s is.
func read(s string) api.Rel {
	r, e := algebra.Parse(shopBase(), s)
	if e != api.OK {
		panic(s)
	}
	return r
}

func number(n int64) api.Value { return api.Value{Kind: api.Int, Int: n} }

// ex returns the plain expression whose string s is.
func ex(s string) api.Expr {
	e, f := scalar.Parse(s)
	if f != api.OK {
		panic(s)
	}
	return e
}

func exs(l ...string) []api.Expr {
	var out []api.Expr
	for _, s := range l {
		out = append(out, ex(s))
	}
	return out
}

func node(op api.Op, args ...api.Expr) api.Expr { return api.Expr{Op: op, Args: args} }

func exists(n int, q api.Rel) api.Expr {
	return api.Expr{Op: api.OExists, N: n, Rels: []api.Rel{q}}
}

func in(n int, q api.Rel, args ...api.Expr) api.Expr {
	return api.Expr{Op: api.OIn, N: n, Args: args, Rels: []api.Rel{q}}
}

func one(n int, q api.Rel) api.Expr { return api.Expr{Op: api.OOne, N: n, Rels: []api.Rel{q}} }

func scan(name string) api.Rel { return api.Rel{Op: api.RScan, Name: name} }

// values takes the strings of columns and of rows.
func values(cols, lines string) api.Rel {
	l, e := rows.Parse(lines)
	if e != api.OK {
		panic(lines)
	}
	return api.Rel{Op: api.RValues, Cols: columns(cols), Rows: l}
}

// columns reads columns as they are in strings of relations.
func columns(s string) []api.Col {
	var out []api.Col
	for _, w := range strings.Fields(s) {
		word, null := strings.CutSuffix(w, "?")
		out = append(out, api.Col{Kind: api.Kind(1 + slices.Index([]string{"int", "bool", "text"}, word)), Null: null})
	}
	return out
}

// shown writes columns as they are in strings of relations.
func shown(cols []api.Col) string {
	var out []string
	for _, c := range cols {
		s := []string{"none", "int", "bool", "text"}[c.Kind]
		if c.Null {
			s += "?"
		}
		out = append(out, s)
	}
	return strings.Join(out, " ")
}

func filter(e api.Expr, x api.Rel) api.Rel {
	return api.Rel{Op: api.RFilter, Exprs: []api.Expr{e}, Ins: []api.Rel{x}}
}

func mapped(x api.Rel, l ...api.Expr) api.Rel {
	return api.Rel{Op: api.RMap, Exprs: l, Ins: []api.Rel{x}}
}

func join(how api.Join, e api.Expr, x, y api.Rel) api.Rel {
	return api.Rel{Op: api.RJoin, Join: how, Exprs: []api.Expr{e}, Ins: []api.Rel{x, y}}
}

func apply(n int, how api.Join, x, y api.Rel) api.Rel {
	return api.Rel{Op: api.RApply, N: n, Join: how, Ins: []api.Rel{x, y}}
}

func group(x api.Rel, by []int, calls ...api.Call) api.Rel {
	return api.Rel{Op: api.RGroup, Group: by, Calls: calls, Ins: []api.Rel{x}}
}

func union(l ...api.Rel) api.Rel { return api.Rel{Op: api.RUnion, Ins: l} }

func both(all bool, x, y api.Rel) api.Rel {
	return api.Rel{Op: api.RBoth, All: all, Ins: []api.Rel{x, y}}
}

func minus(all bool, x, y api.Rel) api.Rel {
	return api.Rel{Op: api.RMinus, All: all, Ins: []api.Rel{x, y}}
}

func sorted(x api.Rel, offset, fetch int, keys ...api.Key) api.Rel {
	return api.Rel{Op: api.RSort, Keys: keys, Offset: offset, Fetch: fetch, Ins: []api.Rel{x}}
}

func leaf(n int, cols string, sets ...[]int) api.Rel {
	return api.Rel{Op: api.RLeaf, N: n, Cols: columns(cols), Sets: sets}
}

// wide has n columns of the kind Int.
func wide(n int) api.Rel { return leaf(0, strings.Repeat("int ", n)) }

// copies is a list of n times x.
func copies[T any](n int, x T) []T { return slices.Repeat([]T{x}, n) }

// deepRel has n nodes, one in the other.
func deepRel(n int) api.Rel {
	r := scan("t")
	for range n - 1 {
		r = sorted(r, 0, -1)
	}
	return r
}

// deepExpr has n nodes, one in the other, and is Bool.
func deepExpr(n int) api.Expr {
	e := ex("true")
	for range n - 1 {
		e = node(api.ONot, e)
	}
	return e
}
