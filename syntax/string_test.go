package syntax_test

import (
	"testing"

	"tactician/api"
	"tactician/syntax"
)

// P9.2: trees that no string has, and strings that are too long.

func TestNoQueries(t *testing.T) {
	one := items(num(1))
	key := func(l ...Key) Query { return Query{Body: one, Keys: l, Limit: -1, Offset: -1} }
	for what, q := range map[string]Query{
		"nothing": {}, "no body": plain(Body{}), "limit -2": {Body: one, Limit: -2, Offset: -1}, "offset -2": {Body: one, Limit: -1, Offset: -2}, "a least limit": {Body: one, Limit: -1 << 63, Offset: -1},
		"limit 20001": {Body: one, Limit: api.MaxRows + 1, Offset: -1}, "offset 20001": {Body: one, Limit: -1, Offset: api.MaxRows + 1}, "a greatest offset": {Body: one, Limit: -1, Offset: 1<<63 - 1},
		"a key of nothing": key(Key{}), "a key of both": key(Key{Name: "a", At: 1}), "a key -1": key(Key{At: -1}), "a key 20001": key(Key{At: api.MaxRows + 1}), "a key of a word": key(Key{Name: "by"}),
		"a key of a great letter": key(Key{Name: "A"}), "a key of two names": key(Key{Name: "t.a"}), "a key of a blank": key(Key{Name: "a "}), "a key of no name": key(Key{Name: "a"}, Key{Desc: true}),
		"17 keys": key(make17(Key{Name: "a"})...),
	} {
		hasNone(t, what, q, api.ErrSyntax)
		hasNone(t, what+", in brackets", plain(sub(q)), api.ErrSyntax)
		hasNone(t, what+", in a from", from(derived(q, "x")), api.ErrSyntax)
		hasNone(t, what+", in exists", chosen(exists(q)), api.ErrSyntax)
		hasNone(t, what+", in in", chosen(inQuery(col("a"), q)), api.ErrSyntax)
		hasNone(t, what+", in an expression", chosen(scalar(q)), api.ErrSyntax)
		hasNone(t, what+", in a union", plain(Body{Op: syntax.Union, Ins: []Query{plain(one), q}}), api.ErrSyntax)
	}
}

// make17 is one element more than a list may have.
func make17[T any](x T) []T {
	out := make([]T, api.MaxCols+1)
	for i := range out {
		out[i] = x
	}
	return out
}

func TestNoBodies(t *testing.T) {
	one, row := items(num(1)), []Node{num(1)}
	union, except, intersect := set(syntax.Union, one, one), set(syntax.Except, one, one), set(syntax.Intersect, one, one)
	selected := func(change func(b *Body)) Body {
		b := Body{Op: syntax.Select, Items: []Item{{Star: true}}, From: []Source{table("t", "")}}
		change(&b)
		return b
	}
	cut := func(change func(q *Query)) Body {
		b := set(syntax.Union, one, one)
		change(&b.Ins[0])
		return b
	}
	bodies := map[string]Body{
		"no items": {Op: syntax.Select}, "select with all": selected(func(b *Body) { b.All = true }), "select with rows": selected(func(b *Body) { b.Rows = [][]Node{row} }), "select with an operand": selected(func(b *Body) { b.Ins = []Query{plain(one)} }),
		"two wheres": selected(func(b *Body) { b.Where = []Node{num(1), num(1)} }), "two havings": selected(func(b *Body) { b.Having = []Node{num(1), num(1)} }), "17 groups": selected(func(b *Body) { b.Group = make17(num(1)) }),
		"17 items": selected(func(b *Body) { b.Items = make17(item(num(1))) }), "17 sources": selected(func(b *Body) { b.From = make17(table("t", "")) }), "an operation below all": {Op: -1, Items: one.Items}, "an operation above all": {Op: syntax.Sub + 1, Ins: []Query{plain(one)}},
		"no rows": {Op: syntax.Values}, "an empty row": values(nil), "an empty row behind one": values(row, nil), "17 rows": values(make17(row)...), "a row of 17": values(make17(num(1))), "values with distinct": {Op: syntax.Values, Rows: [][]Node{row}, Distinct: true},
		"values with all": all(values(row)), "values with items": {Op: syntax.Values, Rows: [][]Node{row}, Items: one.Items}, "values with a where": {Op: syntax.Values, Rows: [][]Node{row}, Where: row}, "values with an operand": {Op: syntax.Values, Rows: [][]Node{row}, Ins: []Query{plain(one)}},
		"one operand": {Op: syntax.Union, Ins: []Query{plain(one)}}, "no operands": {Op: syntax.Except}, "three operands": {Op: syntax.Intersect, Ins: []Query{plain(one), plain(one), plain(one)}}, "union with distinct": {Op: syntax.Union, Distinct: true, Ins: union.Ins},
		"union with items": {Op: syntax.Union, Items: one.Items, Ins: union.Ins}, "union with rows": {Op: syntax.Union, Rows: [][]Node{row}, Ins: union.Ins}, "union of union on the right": set(syntax.Union, one, union), "union of except on the right": set(syntax.Union, one, except),
		"except of union on the right": set(syntax.Except, one, union), "intersect of union on the left": set(syntax.Intersect, union, one), "intersect of except on the left": set(syntax.Intersect, except, one), "intersect of union on the right": set(syntax.Intersect, one, union),
		"intersect of intersect on the right": set(syntax.Intersect, one, intersect), "an operand with a limit": cut(func(q *Query) { q.Limit = 1 }), "an operand with an offset": cut(func(q *Query) { q.Offset = 0 }), "an operand with keys": cut(func(q *Query) { q.Keys = []Key{{At: 1}} }),
		"an operand with limit 0 and offset 0": cut(func(q *Query) { q.Limit, q.Offset = 0, 0 }), "brackets with all": all(sub(plain(one))), "brackets without a query": {Op: syntax.Sub}, "brackets with two queries": {Op: syntax.Sub, Ins: union.Ins}, "brackets with items": {Op: syntax.Sub, Ins: []Query{plain(one)}, Items: one.Items},
	}
	for what, b := range bodies {
		hasNone(t, what, plain(b), api.ErrSyntax)
		hasNone(t, what+", on the left", plain(set(syntax.Except, b, one)), api.ErrSyntax)
		hasNone(t, what+", on the right", plain(set(syntax.Union, one, b)), api.ErrSyntax)
		hasNone(t, what+", in brackets", plain(sub(plain(b))), api.ErrSyntax)
	}
}

func TestNoItemsAndSources(t *testing.T) {
	for what, x := range map[string]Item{
		"nothing": {}, "a name": {As: "x"}, "a table": {Table: "t"}, "two expressions": {Expr: []Node{num(1), num(1)}}, "a star with a name": {Star: true, As: "x"}, "a star with an expression": {Star: true, Expr: []Node{num(1)}},
		"a star of no name": {Star: true, Table: "T"}, "a star of a word": {Star: true, Table: "left"}, "a star of two names": {Star: true, Table: "t.u"}, "a word as name": {Expr: []Node{num(1)}, As: "as"}, "no name": {Expr: []Node{num(1)}, As: "1"},
		"an expression of a table": {Expr: []Node{num(1)}, Table: "t"}, "a long name": {Expr: []Node{num(1)}, As: many("a", api.MaxName+1)},
	} {
		hasNone(t, what, plain(Body{Op: syntax.Select, Items: []Item{x}}), api.ErrSyntax)
		hasNone(t, what+", behind another", plain(Body{Op: syntax.Select, Items: []Item{{Star: true}, x}}), api.ErrSyntax)
	}
	u, v, q, a := table("u", ""), table("v", ""), chosen(num(1)), col("a")
	for what, x := range map[string]Source{
		"nothing": {}, "an operation below all": {Op: -1, Name: "t"}, "an operation above all": {Op: syntax.FullJoin + 1, Ins: []Source{u, v}, On: []Node{a}}, "without a name": table("", ""), "with only another name": table("", "t"), "a word": table("t.u", ""), "a great letter": table("T", ""),
		"as a word": table("t", "join"), "as no name": table("t", "t u"), "a table with a query": {Op: syntax.Named, Name: "t", Query: []Query{q}}, "a table with inputs": {Op: syntax.Named, Name: "t", Ins: []Source{u}}, "a table with a condition": {Op: syntax.Named, Name: "t", On: []Node{a}},
		"a query without a name": derived(q, ""), "a query as a word": derived(q, "on"), "no query": {Op: syntax.Derived, As: "x"}, "two queries": {Op: syntax.Derived, As: "x", Query: []Query{q, q}}, "a query with two names": {Op: syntax.Derived, Name: "t", As: "x", Query: []Query{q}},
		"a query with a condition": {Op: syntax.Derived, As: "x", Query: []Query{q}, On: []Node{a}}, "a query with an input": {Op: syntax.Derived, As: "x", Query: []Query{q}, Ins: []Source{u}}, "cross with a condition": join(syntax.Cross, u, v, a), "a join without a condition": join(syntax.InnerJoin, u, v),
		"a join with two conditions": join(syntax.LeftJoin, u, v, a, a), "one input": {Op: syntax.RightJoin, Ins: []Source{u}, On: []Node{a}}, "no input": {Op: syntax.Cross}, "three inputs": {Op: syntax.Cross, Ins: []Source{u, v, u}}, "a join with a name": {Op: syntax.Cross, Ins: []Source{u, v}, Name: "t"},
		"a join with another name": {Op: syntax.FullJoin, Ins: []Source{u, v}, On: []Node{a}, As: "t"}, "a join with a query": {Op: syntax.Cross, Ins: []Source{u, v}, Query: []Query{q}}, "cross on the right": join(syntax.Cross, u, join(syntax.Cross, u, v)),
		"a join on the right": join(syntax.InnerJoin, u, join(syntax.InnerJoin, u, v, a), a), "a join on the right of cross": join(syntax.Cross, u, join(syntax.LeftJoin, u, v, a)), "cross on the right of a join": join(syntax.RightJoin, u, join(syntax.Cross, u, v), a),
	} {
		hasNone(t, what, from(x), api.ErrSyntax)
		hasNone(t, what+", behind another", from(u, x), api.ErrSyntax)
		hasNone(t, what+", on the left", from(join(syntax.Cross, x, u)), api.ErrSyntax)
		hasNone(t, what+", on the right", from(join(syntax.LeftJoin, u, x, a)), api.ErrSyntax)
	}
}

func TestNoNodes(t *testing.T) {
	a, b, q := col("a"), col("b"), chosen(num(1))
	bracketed := plain(sub(q))
	nodes := map[string]Node{
		"nothing": {}, "an operation below all": node(-1), "an operation above all": node(syntax.Tuple+1, a, b), "a number below 0": num(-1), "the least number": num(-1 << 63), "a number with a text": {Op: syntax.Num, Text: "1"}, "a number with an Arg": {Op: syntax.Num, Args: []Node{a}},
		"a long text": str(many("a", api.MaxText+1)), "a very long text": str(many("a", 100000)), "a text with a line feed": str("a\nb"), "a text with a byte of 127": str("\x7f"), "a text with a byte of 0": str("\x00"), "a text in another alphabet": str("\u00e4"), "a text with a number": {Op: syntax.Str, Number: 1},
		"true with a text": {Op: syntax.True, Text: "true"}, "false with an Arg": node(syntax.False, a), "null with a number": {Op: syntax.Nothing, Number: 1}, "null with Not": negated(node(syntax.Nothing)), "a column without a name": col(""), "a word": col("select"), "a great letter": col("A"), "a column of two names": col("a.b"),
		"a column of a digit": col("1"), "a column with _": col("_a"), "a long column": col(many("a", api.MaxName+1)), "a column with an Arg": node2(syntax.Column, "a", b), "of one name": of("a"), "of three names": of("a.b.c"), "of nothing": of(""), "of a point": of("."), "of no column": of("a."), "of no table": of(".a"), "of a word": of("a.on"),
		"of with a blank": of("a .b"), "of a star": of("a.*"), "a call without Args": call("f"), "a call of 17": call("f", make17(a)...), "a call without a name": call("", a), "a call of a word": call("left", a), "a call of two names": call("a.b", a), "a call with Not": negated(call("f", a)), "a call with a query": {Op: syntax.Call, Text: "f", Args: []Node{a}, Query: []Query{q}},
		"count all without a name": {Op: syntax.CountAll}, "count all with an Arg": node2(syntax.CountAll, "f", a), "count all with Distinct": distinct(Node{Op: syntax.CountAll, Text: "f"}), "count all of a word": {Op: syntax.CountAll, Text: "all"}, "a sign +": node2(syntax.Unary, "+", a), "no sign": node2(syntax.Unary, "", a),
		"a great NOT": node2(syntax.Unary, "NOT", a), "a sign in brackets": node2(syntax.Unary, "(", a), "exists as a sign": node2(syntax.Unary, "exists", a), "a sign without an Arg": node2(syntax.Unary, "-"), "a sign with two Args": node2(syntax.Unary, "not", a, b), "a sign with Not": negated(not(a)),
		"no operator": bin(a, "", b), "a comma": bin(a, ",", b), "another operator": bin(a, "==", b), "!=": bin(a, "!=", b), "a great AND": bin(a, "AND", b), "not as operator": bin(a, "not", b), "is as operator": bin(a, "is", b), "an operator with a blank": bin(a, "+ ", b), "two operators": bin(a, "+ a +", b), "an operator with one Arg": node2(syntax.Binary, "+", a),
		"an operator with three Args": node2(syntax.Binary, "or", a, b, a), "an operator without Args": node2(syntax.Binary, "and"), "an operator with Not": negated(bin(a, "+", b)), "an operator with Distinct": distinct(bin(a, "+", b)), "an operator with a query": {Op: syntax.Binary, Text: "+", Args: []Node{a, b}, Query: []Query{q}},
		"is null of nothing": node(syntax.IsNull), "is null of two": node(syntax.IsNull, a, b), "is null with a text": node2(syntax.IsNull, "null", a), "is true of nothing": node(syntax.IsTrue), "is true of two": node(syntax.IsTrue, a, b), "differs of one": node(syntax.Differs, a), "differs of three": node(syntax.Differs, a, b, a), "differs with Distinct": distinct(node(syntax.Differs, a, b)),
		"in of one": node(syntax.In, a), "in of nothing": node(syntax.In), "in a query of nothing": {Op: syntax.In, Query: []Query{q}}, "in a query and a list": {Op: syntax.In, Args: []Node{a, b}, Query: []Query{q}}, "in two queries": {Op: syntax.In, Args: []Node{a}, Query: []Query{q, q}}, "in 17": node(syntax.In, append(make17(a), a)...),
		"in a query in brackets": inQuery(a, bracketed), "in a query that begins with a bracket": inQuery(a, plain(set(syntax.Union, sub(q), q.Body))), "in with Distinct": distinct(node(syntax.In, a, b)), "between of two": node(syntax.Between, a, b), "between of four": node(syntax.Between, a, b, a, b), "between of nothing": node(syntax.Between),
		"exists nothing": node(syntax.Exists), "exists two queries": {Op: syntax.Exists, Query: []Query{q, q}}, "exists with Not": negated(exists(q)), "exists with an Arg": {Op: syntax.Exists, Query: []Query{q}, Args: []Node{a}}, "a case of nothing": node(syntax.Case), "a case of one": node(syntax.Case, a), "a case with Not": negated(node(syntax.Case, a, b)),
		"a query of nothing": node(syntax.Scalar), "two queries": {Op: syntax.Scalar, Query: []Query{q, q}}, "a query with an Arg": {Op: syntax.Scalar, Query: []Query{q}, Args: []Node{a}}, "a query in brackets": scalar(bracketed), "a query that begins with a bracket": scalar(plain(set(syntax.Except, set(syntax.Intersect, sub(q), q.Body), q.Body))),
		"a query in brackets with a limit": scalar(Query{Body: bracketed.Body, Limit: 1, Offset: -1}), "a tuple of nothing": node(syntax.Tuple), "a tuple of one": tuple(a), "a tuple of 17": tuple(make17(a)...), "a tuple with Not": negated(tuple(a, b)), "a tuple with a text": node2(syntax.Tuple, "a", a, b),
	}
	for what, n := range nodes {
		for place, q := range map[string]Query{
			"an item": chosen(n), "the second item": chosen(a, n), "a where": plain(Body{Op: syntax.Select, Items: []Item{item(a)}, Where: []Node{n}}), "a group": plain(Body{Op: syntax.Select, Items: []Item{item(a)}, Group: []Node{a, n}}),
			"a having": plain(Body{Op: syntax.Select, Items: []Item{item(a)}, Having: []Node{n}}), "a row": plain(values([]Node{a}, []Node{n})), "a condition": from(join(syntax.FullJoin, table("t", ""), table("u", ""), n)), "a query": chosen(exists(chosen(n))),
			"an operand": chosen(bin(n, "or", a)), "a right operand": chosen(bin(a, "*", n)), "a negation": chosen(not(n)), "a sign": chosen(minus(n)), "a call": chosen(call("f", a, n)), "is null": chosen(node(syntax.IsNull, n)), "differs": chosen(node(syntax.Differs, a, n)),
			"in": chosen(node(syntax.In, n, a)), "in a list": chosen(node(syntax.In, a, n)), "in a query": chosen(inQuery(n, chosen(a))), "between": chosen(node(syntax.Between, a, n, a)), "a case": chosen(node(syntax.Case, a, a, n)), "a tuple": chosen(tuple(n, a)),
		} {
			hasNone(t, what+" in "+place, q, api.ErrSyntax)
		}
	}
}

// node2 is a node with a text.
func node2(op int, text string, args ...Node) Node {
	return Node{Op: op, Text: text, Args: args}
}

func TestLongStrings(t *testing.T) {
	row := func(n int) Node {
		out := col("a")
		for range n {
			out = bin(out, "+", col("a"))
		}
		return out
	}
	// A string of MaxSql bytes, and one of a byte more.
	n := (api.MaxSql - len("select a")) / len(" + a")
	both(t, "select a"+many(" + a", n), chosen(row(n)), "select a"+many(" + a", n))
	if len("select a"+many(" + a", n)) != api.MaxSql {
		t.Fatalf("%d rows", n)
	}
	last := chosen(bin(row(n-1), "+", col("ab")))
	hasNone(t, "a byte more", last, api.ErrLarge)
	last.Body.Items[0].As = "x"
	hasNone(t, "some bytes more", last, api.ErrLarge)
	// The tree of a string whose own string is longer.
	for _, s := range []string{"select a" + many("+a", n+1), "select a a from t t" + many(" cross join t t", 260), "select a" + many(",a", 15) + many(" union select a"+many(",a", 15), 80), "values(1)" + many(" union values(1)", 230)} {
		q, e := syntax.Parse(s)
		if e != api.OK {
			t.Errorf("%.40s: %v", s, e)
		}
		hasNone(t, s[:40], q, api.ErrLarge)
	}
	// ErrSyntax comes first, wherever in the tree it is.
	wrong := chosen(row(5000), num(-1))
	hasNone(t, "wrong at the end", wrong, api.ErrSyntax)
	hasNone(t, "wrong at the beginning", chosen(num(-1), row(5000)), api.ErrSyntax)
	hasNone(t, "large", chosen(row(5000), num(1)), api.ErrLarge)
	wrong = chosen(row(5000))
	wrong.Limit = -2
	hasNone(t, "wrong behind all", wrong, api.ErrSyntax)
	texts := make([]Node, 0, api.MaxCols)
	for range api.MaxCols {
		texts = append(texts, str(many("'", api.MaxText)))
	}
	hasNone(t, "long texts", chosen(texts...), api.ErrLarge)
}

// P1, R10: trees that are nested deep.

func TestDeepTrees(t *testing.T) {
	const n = 1<<16 - 10
	one := items(num(1))
	row, joined, union, brackets := col("a"), table("t", ""), one, one
	signs, cases, tests, tuples := col("a"), col("a"), col("a"), col("a")
	for range n {
		row = bin(row, "*", col("a"))
		joined = join(syntax.Cross, joined, table("t", ""))
		union = set(syntax.Union, union, one)
		brackets = sub(plain(brackets))
		signs, cases, tests, tuples = minus(signs), node(syntax.Case, cases, cases), node(syntax.IsNull, tests), tuple(tuples, tuples)
	}
	for what, q := range map[string]Query{"a row": chosen(row), "joins": from(joined), "unions": plain(union)} {
		hasNone(t, what, q, api.ErrLarge)
		if !syntax.Same(q, q) || syntax.Same(q, chosen(num(1))) {
			t.Errorf("%s: not the same", what)
		}
	}
	for what, q := range map[string]Query{
		"brackets": plain(brackets), "signs": chosen(signs), "cases": chosen(cases), "tests": chosen(tests), "tuples": chosen(tuples), "a row on the right": chosen(bin(col("a"), "*", row)), "a wrong row": chosen(bin(row, "+", num(-1))), "wrong joins": from(join(syntax.InnerJoin, joined, table("t", ""))),
	} {
		want := api.ErrSyntax
		if what == "a row on the right" {
			want = api.ErrLarge
		}
		hasNone(t, what, q, want)
	}
	if q := plain(brackets); !syntax.Same(q, q) {
		t.Errorf("brackets: not the same")
	}
}

// TestTreesOfTheirOwn has trees that contain themselves, and trees in which a part is there again and again.
func TestTreesOfTheirOwn(t *testing.T) {
	loop := func(at, n int, op int, text string) Query {
		args := make([]Node, n)
		for i := range args {
			args[i] = col("a")
		}
		out := Node{Op: op, Text: text, Args: args}
		args[at] = out
		return chosen(out)
	}
	ins := []Query{plain(items(num(1))), plain(items(num(1)))}
	ins[0] = plain(Body{Op: syntax.Union, Ins: ins})
	inputs := []Source{table("t", ""), table("t", "")}
	inputs[0] = Source{Op: syntax.Cross, Ins: inputs}
	within := []Query{chosen(num(1))}
	within[0] = plain(Body{Op: syntax.Sub, Ins: within})
	scalars := []Query{chosen(num(1))}
	scalars[0] = chosen(Node{Op: syntax.Scalar, Query: scalars})
	for what, q := range map[string]Query{
		"a row on the left": loop(0, 2, syntax.Binary, "+"), "a row on the right": loop(1, 2, syntax.Binary, "and"), "a tuple": loop(1, 3, syntax.Tuple, ""), "a sign": loop(0, 1, syntax.Unary, "-"), "is null": loop(0, 1, syntax.IsNull, ""), "a case": loop(2, 3, syntax.Case, ""),
		"unions": ins[0], "joins": from(inputs[0]), "brackets": within[0], "queries": scalars[0],
	} {
		hasNone(t, what, q, api.ErrSyntax)
		if syntax.Same(q, chosen(num(1))) {
			t.Errorf("%s: the same as 1", what)
		}
		syntax.Same(q, q) // it ends
	}
	for _, n := range []int{30, 1000} {
		row, tests, calls := col("a"), col("a"), col("a")
		union, joined := items(num(1)), table("t", "")
		for range n {
			row, tests, calls = bin(row, "-", row), node(syntax.Between, tests, tests, tests), call("f", calls, calls, calls)
			union, joined = set(syntax.Except, union, union), join(syntax.Cross, joined, joined)
		}
		for what, q := range map[string]Query{"rows": chosen(row), "tests": chosen(tests), "calls": chosen(calls), "unions": plain(union), "joins": from(joined)} {
			hasNone(t, what, q, api.ErrSyntax)
		}
	}
}
