package meaning_test

import (
	"slices"
	"strings"

	"tactician/algebra"
	"tactician/api"
	"tactician/base"
	"tactician/rows"
	"tactician/scalar"
)

// shop is a base with a column of each kind, without and with null.
const shop = "table t (a int, b int null) key (a)\ntable u (c text, d bool null)\ntable n (e int null)\n"

// shopBase returns the base of shop.
func shopBase() api.Base {
	b, e := base.Parse(shop)
	if e != api.OK {
		panic(e)
	}
	return b
}

// shopData returns data of shop.
func shopData() api.Data {
	return api.Data{Rows: [][][]api.Value{
		list("2, 5; 1, null; 4, 5; 3, 2"), list("'x', true; 'y', null; 'x', false; 'x', true"), list("2; null; 5; 2; null"),
	}}
}

// noBase is no base.
func noBase() api.Base { return api.Base{Tables: []api.Table{{Name: "t"}}} }

// list reads rows that are written without brackets, with ; between them.
func list(s string) [][]api.Value {
	var lines string
	if s != "" {
		lines = "(" + strings.ReplaceAll(s, "; ", ")\n(") + ")\n"
	}
	l, e := rows.Parse(lines)
	if e != api.OK {
		panic(s)
	}
	return l
}

// written is the other way round; a list has the string none if it has no rows.
func written(l [][]api.Value) string {
	if len(l) == 0 {
		return "none"
	}
	s, e := rows.String(l)
	if e != api.OK {
		panic(e)
	}
	return strings.ReplaceAll(strings.Trim(s, "()\n"), ")\n(", "; ")
}

// read returns the relation on shop whose string s is.
func read(s string) api.Rel {
	r, e := algebra.Parse(shopBase(), s)
	if e != api.OK {
		panic(s)
	}
	return r
}

// readExpr returns the expression whose string s is, on rows of the columns cols.
func readExpr(s, cols string) api.Expr {
	return read("map(" + s + ", values(" + cols + "; ))").Exprs[0]
}

// ex returns the plain expression whose string s is.
func ex(s string) api.Expr {
	e, f := scalar.Parse(s)
	if f != api.OK {
		panic(s)
	}
	return e
}

// columns reads columns as they are in strings of relations.
func columns(s string) []api.Col {
	var out []api.Col
	for _, w := range strings.Fields(s) {
		word, null := strings.CutSuffix(w, "?")
		out = append(out, api.Col{Kind: api.Kind(1 + slices.Index([]string{"int", "bool", "text"}, word)), Null: null})
	}
	return out
}

func number(n int) api.Value { return api.Value{Kind: api.Int, Int: int64(n)} }

func node(op api.Op, args ...api.Expr) api.Expr { return api.Expr{Op: op, Args: args} }

func exists(n int, q api.Rel) api.Expr {
	return api.Expr{Op: api.OExists, N: n, Rels: []api.Rel{q}}
}

func in(n int, q api.Rel, args ...api.Expr) api.Expr {
	return api.Expr{Op: api.OIn, N: n, Args: args, Rels: []api.Rel{q}}
}

func one(n int, q api.Rel) api.Expr { return api.Expr{Op: api.OOne, N: n, Rels: []api.Rel{q}} }

func scan(name string) api.Rel { return api.Rel{Op: api.RScan, Name: name} }

// values has n rows with one column, from 0 on.
func values(n int) api.Rel {
	r := api.Rel{Op: api.RValues, Cols: columns("int")}
	for i := range n {
		r.Rows = append(r.Rows, []api.Value{number(i)})
	}
	return r
}

func leaf(n int, cols string, sets ...[]int) api.Rel {
	return api.Rel{Op: api.RLeaf, N: n, Cols: columns(cols), Sets: sets}
}

func filter(e api.Expr, x api.Rel) api.Rel {
	return api.Rel{Op: api.RFilter, Exprs: []api.Expr{e}, Ins: []api.Rel{x}}
}

func mapped(x api.Rel, l ...api.Expr) api.Rel {
	return api.Rel{Op: api.RMap, Exprs: l, Ins: []api.Rel{x}}
}

func join(how api.Join, e api.Expr, x, y api.Rel) api.Rel {
	return api.Rel{Op: api.RJoin, Join: how, Exprs: []api.Expr{e}, Ins: []api.Rel{x, y}}
}

func apply(n int, how api.Join, x, y api.Rel) api.Rel {
	return api.Rel{Op: api.RApply, N: n, Join: how, Ins: []api.Rel{x, y}}
}

func group(x api.Rel, by []int, calls ...api.Call) api.Rel {
	return api.Rel{Op: api.RGroup, Group: by, Calls: calls, Ins: []api.Rel{x}}
}

// count is the one row with the number of rows of x.
func count(x api.Rel) api.Rel { return group(x, nil, api.Call{Fn: api.Count}) }

func union(l ...api.Rel) api.Rel { return api.Rel{Op: api.RUnion, Ins: l} }

// set is an RBoth or an RMinus.
func set(op api.RelOp, all bool, x, y api.Rel) api.Rel {
	return api.Rel{Op: op, All: all, Ins: []api.Rel{x, y}}
}

func sorted(x api.Rel, offset, fetch int, keys ...api.Key) api.Rel {
	return api.Rel{Op: api.RSort, Keys: keys, Offset: offset, Fetch: fetch, Ins: []api.Rel{x}}
}
