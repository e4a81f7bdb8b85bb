package meaning_test

import (
	"slices"
	"testing"

	"tactician/algebra"
	"tactician/api"
	"tactician/meaning"
	"tactician/scalar"
)

// TestBag: P7.1
func TestBag(t *testing.T) {
	for _, c := range []struct{ rel, want string }{
		{"scan(t)", "1, null; 2, 5; 3, 2; 4, 5"},
		{"sort([1-], 0, -1, scan(t))", "1, null; 2, 5; 3, 2; 4, 5"},
		{"sort([1- 0-], 0, 2, scan(t))", "2, 5; 4, 5"},
		{"sort([0-], 0, 3, scan(n))", "2; 2; 5"},
		{"filter(false, scan(n))", "none"},
	} {
		l, e := meaning.Bag(shopBase(), shopData(), read(c.rel))
		if got := written(l); got != c.want || e != api.OK {
			t.Errorf("%s: %s, %v, not %s", c.rel, got, e, c.want)
		}
	}
}

// TestAlike: P7.3
func TestAlike(t *testing.T) {
	for _, c := range []struct {
		r, s string
		want bool
	}{
		{"scan(t)", "scan(t)", true},
		{"scan(t)", "union(scan(t), filter(false, scan(t)))", true},
		{"scan(t)", "values(int int; (4, 5) (3, 2) (2, 5))", false},
		{"scan(t)", "values(int int?; (4, 5) (3, 2) (2, 5) (1, null))", true},
		{"scan(t)", "values(int int?; (4, 5) (3, 2) (2, 5) (1, 1))", false},
		{"scan(n)", "group([0], scan(n))", false},
		{"scan(n)", "union(scan(n), values(int; (2)))", false},
		{"values(int; (1) (1) (2))", "values(int; (1) (2) (2))", false},
		{"values(int; (1) (1) (2))", "values(int; (2) (1) (1))", true},

		{"sort([0], 0, -1, scan(t))", "sort([0-], 0, -1, scan(t))", false},
		{"sort([0], 0, -1, scan(t))", "sort([], 0, -1, scan(t))", true},
		{"sort([0-], 0, -1, scan(n))", "sort([0-], 0, -1, values(int?; (5) (2) (2) (null) (null)))", true},
		{"sort([1], 0, -1, scan(t))", "sort([1 0], 0, -1, scan(t))", true},
		{"sort([1], 0, -1, scan(t))", "sort([1 0-], 0, -1, scan(t))", false},
		{"sort([0], 0, 1, scan(t))", "sort([0], 0, 2, scan(t))", false},
		{"sort([0-], 0, -1, scan(t))", "scan(t)", true},
		{"scan(t)", "sort([0-], 0, -1, scan(t))", true},
		{"sort([0-], 0, 3, scan(t))", "scan(t)", false},
		{"sort([0], 0, -1, scan(t))", "filter(true, sort([0-], 0, -1, scan(t)))", true},
		{"sort([0], 0, -1, filter(false, scan(t)))", "sort([0-], 1, 2, filter(false, scan(t)))", true},

		{"filter(false, scan(t))", "filter(false, scan(n))", false},
		{"filter(false, scan(t))", "filter(false, scan(u))", false},
		{"filter(false, scan(t))", "values(int int; )", true},
		{"filter(false, scan(t))", "values(int? text; )", false},
		{"values(int?; (null))", "values(text?; (null))", false},
		{"values(int?; (null))", "map(null:int, values(int; (1)))", true},
		{"map($0, $1, scan(t))", "map($1, $0, scan(t))", false},
		{"sort([], 0, 0, scan(t))", "sort([], 0, 0, scan(u))", false},
		{"sort([], 0, -1, values(int?; (null)))", "sort([], 0, -1, values(bool?; (null)))", false},
	} {
		is, e := meaning.Alike(shopBase(), shopData(), read(c.r), read(c.s))
		if is != c.want || e != api.OK {
			t.Errorf("%s and %s: %v, %v", c.r, c.s, is, e)
		}
	}
}

// TestErrorsOfAlike: P7.3: that one of the two is no relation comes first, whichever it is (rules R1 and R2); then all other
// errors of the first one come before those of the second one.
func TestErrorsOfAlike(t *testing.T) {
	right, noLeaf, large := scan("t"), leaf(0, "int int"), join(api.Semi, ex("true"), values(2000), values(2000))
	leafAndLarge := union(large, leaf(0, "int"))
	none := []api.Rel{{}, scan("w"), filter(ex("eq(^1.0, 1)"), scan("t")), union(leaf(0, "int"), scan("t"))}
	check := func(r, s api.Rel, want api.Errno) {
		if is, e := meaning.Alike(shopBase(), shopData(), r, s); is || e != want {
			t.Errorf("%v and %v: %v, %v, not %v", r.Op, s.Op, is, e, want)
		}
	}
	for _, n := range none {
		for _, r := range []api.Rel{right, noLeaf, large, leafAndLarge, n} {
			check(n, r, api.ErrRel)
			check(r, n, api.ErrRel)
		}
	}
	for _, c := range []struct {
		r, s api.Rel
		want api.Errno
	}{
		{right, noLeaf, api.ErrNone}, {noLeaf, right, api.ErrNone}, {noLeaf, large, api.ErrNone},
		{right, large, api.ErrLarge}, {large, right, api.ErrLarge}, {large, noLeaf, api.ErrLarge},
		{leafAndLarge, right, api.ErrNone}, {right, leafAndLarge, api.ErrNone}, {large, leafAndLarge, api.ErrLarge},
	} {
		check(c.r, c.s, c.want)
	}
}

// TestAsk: P7.4
func TestAsk(t *testing.T) {
	for _, c := range []struct{ e, cols, row, want string }{
		{"$0", "int", "5", "5"},
		{"$1", "int text?", "5, null", "null"},
		{"add($0, mul($1, 2))", "int int", "5, 7", "19"},
		{"true", "int", "5", "true"},
		{"null:bool", "int", "5", "null"},
		{"'it'", "bool?", "null", "'it'"},
		{"gt($0, 3)", "int?", "null", "null"},
		{"exists(1, filter(eq($0, ^1.0), scan(n)))", "int", "5", "true"},
		{"exists(1, filter(eq($0, ^1.0), scan(n)))", "int", "6", "false"},
		{"exists(1, filter(same($0, ^1.1), scan(n)))", "text int?", "'x', null", "true"},
		{"in(1, $0, scan(n))", "int", "5", "true"},
		{"in(1, $0, scan(n))", "int", "6", "null"},
		{"in(1, $0, filter(not(isnull($0)), scan(n)))", "int", "6", "false"},
		{"in(1, $1, $0, scan(u))", "bool text", "true, 'x'", "true"},
		{"one(1, map($1, filter(eq($0, ^1.0), scan(t))))", "int", "3", "2"},
		{"one(1, map($1, filter(eq($0, ^1.0), scan(t))))", "int", "1", "null"},
		{"one(1, scan(n))", "int", "1", "null"},
		{"one(1, group([], sum($1), filter(gt($0, ^1.0), scan(t))))", "int", "1", "12"},
		{"concat($0, one(1, group([], max($0), scan(u))))", "text", "'b'", "'by'"},
		{"one(1, map(one(2, map(concat(^1.0, ^2.0), values(int; (1)))), values(text; ('b'))))", "text", "'a'", "'ab'"},
	} {
		cols := columns(c.cols)
		v, e := meaning.Ask(shopBase(), shopData(), readExpr(c.e, c.cols), cols, list(c.row)[0])
		if got := written([][]api.Value{{v}}); got != c.want || e != api.OK {
			t.Errorf("%s on %s: %s, %v, not %s", c.e, c.row, got, e, c.want)
		}
	}
}

// TestAskPlain: P7.4: what package scalar evaluates has the same value.
func TestAskPlain(t *testing.T) {
	cols, row := columns("int int? text bool"), list("7, null, 'seven', true")[0]
	for _, s := range []string{
		"$0", "$1", "$2", "$3", "add($0, $1)", "sub($0, 9)", "mul($0, $0)", "div($0, -2)", "mod($0, -2)", "div($0, 0)", "neg($0)", "concat($2, $2)",
		"length($2)", "eq($0, 7)", "ne($0, 7)", "lt($2, 'x')", "le($3, true)", "gt($0, $1)", "ge($0, 7)", "same($1, $1)", "and($3, isnull($1))",
		"or($3, gt($1, 0))", "not($3)", "isnull($0)", "istrue($3)", "case($3, $0, $1)", "coalesce($1, $0)", "9223372036854775807",
	} {
		want, _ := scalar.Eval(ex(s), cols, row)
		if got, e := meaning.Ask(shopBase(), shopData(), ex(s), cols, row); got != want || e != api.OK {
			t.Errorf("%s: %v, %v, not %v", s, got, e, want)
		}
	}
}

// deepExpr has n nodes, one in the other, and is Bool.
func deepExpr(n int) api.Expr {
	e := ex("true")
	for range n - 1 {
		e = node(api.ONot, e)
	}
	return e
}

// manyExprs has n nodes, and is Bool.
func manyExprs(n int) api.Expr {
	if n <= 2 {
		return deepExpr(n)
	}
	half := (n - 1) / 2
	return node(api.OAnd, manyExprs(half), manyExprs(n-1-half))
}

// TestErrorsOfAsk: P7.4, in their order.
func TestErrorsOfAsk(t *testing.T) {
	b, d := shopBase(), shopData()
	int1, five := columns("int"), list("5")[0]
	noLeaf, large := exists(1, leaf(0, "int")), exists(1, join(api.Semi, ex("true"), values(2000), values(2000)))
	tooMany := slices.Repeat(int1, api.MaxCols+1)
	for _, c := range []struct {
		name string
		e    api.Expr
		cols []api.Col
		row  []api.Value
		want api.Errno
	}{
		{"no columns", ex("1"), nil, nil, api.ErrRows},
		{"no kind", ex("1"), []api.Col{{}}, five, api.ErrRows},
		{"another kind", ex("1"), []api.Col{{Kind: 4}}, five, api.ErrRows},
		{"too many columns", ex("1"), tooMany, slices.Repeat(five, api.MaxCols+1), api.ErrRows},
		{"no columns, and no expression", api.Expr{}, nil, nil, api.ErrRows},

		{"no expression", api.Expr{}, int1, five, api.ErrExpr},
		{"no expression, and no row", api.Expr{}, int1, nil, api.ErrExpr},
		{"a column that is not there", ex("$1"), int1, five, api.ErrExpr},
		{"an outer row that is not there", ex("^1.0"), int1, five, api.ErrExpr},
		{"one that is not there in a relation", exists(1, filter(ex("eq(^2.0, 1)"), scan("t"))), int1, five, api.ErrExpr},
		{"a column that is not there in an outer row", exists(1, filter(ex("eq(^1.1, 1)"), scan("t"))), int1, five, api.ErrExpr},
		{"kinds that do not fit", ex("add($0, true)"), int1, five, api.ErrExpr},
		{"a table that is not there", exists(1, scan("w")), int1, five, api.ErrExpr},
		{"two columns", one(1, scan("t")), int1, five, api.ErrExpr},
		{"too few Args", in(1, scan("t"), ex("$0")), int1, five, api.ErrExpr},
		{"no number", exists(0, scan("t")), int1, five, api.ErrExpr},
		{"too deep", deepExpr(api.MaxDepth), int1, five, api.ErrExpr},
		{"just not too deep", deepExpr(api.MaxDepth - 1), int1, five, api.OK},
		{"too many nodes", manyExprs(api.MaxNodes - 1), int1, five, api.ErrExpr},
		{"just not too many nodes", manyExprs(api.MaxNodes - 2), int1, five, api.OK},
		{"not Bool", ex("$0"), int1, five, api.OK},
		{"not Bool, with a relation", one(1, scan("n")), int1, five, api.OK},

		{"no row", ex("$0"), int1, nil, api.ErrRows},
		{"a null", ex("$0"), int1, []api.Value{{}}, api.ErrRows},
		{"a value too many", ex("$0"), int1, list("5, 6")[0], api.ErrRows},
		{"a value of another kind", ex("$0"), int1, list("true")[0], api.ErrRows},
		{"no value", ex("$0"), int1, []api.Value{{Kind: api.Int, Text: "x"}}, api.ErrRows},
		{"too many values", ex("$0"), int1, slices.Repeat(five, api.MaxCols+1), api.ErrRows},
		{"no row, and a leaf", noLeaf, int1, nil, api.ErrRows},
		{"no row, and too large", large, int1, nil, api.ErrRows},

		{"a leaf", noLeaf, int1, five, api.ErrNone},
		{"a leaf, and too large", node(api.OAnd, large, noLeaf), int1, five, api.ErrNone},
		{"a leaf that is not asked for", exists(1, filter(noLeaf, values(0))), int1, five, api.ErrNone},
		{"too large", large, int1, five, api.ErrLarge},
		{"too large where it does not matter", node(api.OOr, ex("true"), large), int1, five, api.ErrLarge},
	} {
		v, e := meaning.Ask(b, d, c.e, c.cols, c.row)
		if e != c.want || e != api.OK && v != (api.Value{}) {
			t.Errorf("%s: %v, %v, not %v", c.name, v, e, c.want)
		}
		if _, e := meaning.Ask(noBase(), d, c.e, c.cols, c.row); e != api.ErrBase {
			t.Errorf("%s on no base: %v", c.name, e)
		}
		if _, e := meaning.Ask(b, api.Data{}, c.e, c.cols, c.row); e != api.ErrData {
			t.Errorf("%s on wrong data: %v", c.name, e)
		}
		// As the chapter says it: what an RFilter on an RValues allows, but for the kind.
		if !slices.Equal(c.cols, int1) {
			continue
		}
		of := func(e api.Expr) api.Errno {
			return algebra.Check(b, filter(e, api.Rel{Op: api.RValues, Cols: c.cols}))
		}
		if of(c.e) == api.OK && c.want == api.ErrExpr {
			t.Errorf("%s: it has the form", c.name)
		}
	}
}

// calls are all that take a relation, each with that alone; they return whether there is nothing beside an error.
var calls = map[string]func(b api.Base, d api.Data, r api.Rel) (bool, api.Errno){
	"Result": func(b api.Base, d api.Data, r api.Rel) (bool, api.Errno) {
		l, e := meaning.Result(b, d, r)
		return l == nil, e
	},
	"Given": func(b api.Base, d api.Data, r api.Rel) (bool, api.Errno) {
		l, e := meaning.Given(b, d, nil, r)
		return l == nil, e
	},
	"Given wrong leaves": func(b api.Base, d api.Data, r api.Rel) (bool, api.Errno) {
		l, e := meaning.Given(b, d, [][][]api.Value{list("'x'")}, r)
		return l == nil, e
	},
	"Bag": func(b api.Base, d api.Data, r api.Rel) (bool, api.Errno) {
		l, e := meaning.Bag(b, d, r)
		return l == nil, e
	},
	"Alike, first": func(b api.Base, d api.Data, r api.Rel) (bool, api.Errno) {
		is, e := meaning.Alike(b, d, r, scan("t"))
		return !is, e
	},
	"Alike, second": func(b api.Base, d api.Data, r api.Rel) (bool, api.Errno) {
		is, e := meaning.Alike(b, d, scan("t"), r)
		return !is, e
	},
	"Alike, beside no relation": func(b api.Base, d api.Data, r api.Rel) (bool, api.Errno) {
		is, e := meaning.Alike(b, d, r, scan("w"))
		return !is, e
	},
}

// TestOrderOfErrors: ErrBase, then ErrData, then ErrRel come before all others (rules R1 to R3).
func TestOrderOfErrors(t *testing.T) {
	twice := shopData()
	twice.Rows[0] = list("1, 2; 1, 3")
	large := join(api.Semi, ex("true"), values(2000), values(2000))
	for name, f := range calls {
		for i, r := range []api.Rel{scan("t"), scan("w"), {}, filter(ex("eq(^1.0, 1)"), scan("t")), union(leaf(0, "int"), scan("t")), leaf(0, "int"), large} {
			if none, e := f(noBase(), twice, r); !none || e != api.ErrBase {
				t.Errorf("%s of %d on no base: %v", name, i, e)
			}
			for _, d := range []api.Data{twice, {}, {Rows: shopData().Rows[:2]}} {
				if none, e := f(shopBase(), d, r); !none || e != api.ErrData {
					t.Errorf("%s of %d with wrong data: %v", name, i, e)
				}
			}
			if none, e := f(shopBase(), shopData(), r); (!none || e != api.ErrRel) && i >= 1 && i <= 4 {
				t.Errorf("%s of %d: %v", name, i, e)
			}
		}
	}
}

// TestExamples has those of the chapter and of DOC.md.
func TestExamples(t *testing.T) {
	b := shopBase()
	d := api.Data{Rows: [][][]api.Value{list("1, null; 2, 5"), nil, nil}}
	for _, c := range []struct{ rel, want string }{
		{"group([], count, sum($1), scan(t))", "2, 5"},
		{"filter(gt($1, 9), scan(t))", "none"},
		{"map(one(1, map(add(^1.0, $0), sort([0-], 0, 1, scan(t)))), scan(t))", "3; 4"},
		{"map($0, filter(gt($1, 3), scan(t)))", "2"},
		{"map($0, filter(not(gt($1, 3)), scan(t)))", "none"},
		{"map($0, filter(not(istrue(gt($1, 3))), scan(t)))", "1"},
		{"group([], sum($1), filter(false, scan(t)))", "null"},
		{"map($0, filter(not(in(1, $0, map($1, scan(t)))), scan(t)))", "none"},
		{"join(left, eq($0, $3), scan(t), scan(t))", "1, null, null, null; 2, 5, null, null"},
	} {
		l, e := meaning.Result(b, d, read(c.rel))
		if got := written(l); got != c.want || e != api.OK {
			t.Errorf("%s: %s, %v, not %s", c.rel, got, e, c.want)
		}
	}
}
