package syntax_test

import (
	"testing"

	"tactician/api"
	"tactician/syntax"
)

// P9.1, P9.2: strings, their trees, and the strings of these; the lines of the grammar one after the other.

func TestExamples(t *testing.T) {
	both(t, "select a, sum(b) as s from t where a > 1 group by a order by s desc limit 3", Query{
		Body: Body{
			Op: syntax.Select, Items: []Item{item(col("a")), {Expr: []Node{call("sum", col("b"))}, As: "s"}},
			From: []Source{table("t", "")}, Where: []Node{bin(col("a"), ">", num(1))}, Group: []Node{col("a")},
		},
		Keys: []Key{{Name: "s", Desc: true}}, Limit: 3, Offset: -1,
	}, "select a , sum ( b ) as s from t where a > 1 group by a order by s desc limit 3")
	both(t, "SELECT * FROM t x LEFT OUTER JOIN u ON x.a = u.c",
		from(join(syntax.LeftJoin, table("t", "x"), table("u", ""), bin(of("x.a"), "=", of("u.c")))),
		"select * from t as x left join u on x . a = u . c")
	in := node(syntax.In, col("a"), num(1), num(2))
	both(t, "select not a in (1, 2)", chosen(not(in)), "select not a in ( 1 , 2 )")
	both(t, "select a not in (1, 2)", chosen(negated(in)), "select a not in ( 1 , 2 )")
}

func TestQueries(t *testing.T) {
	one := items(num(1))
	query := func(limit, offset int, keys ...Key) Query {
		return Query{Body: one, Keys: keys, Limit: limit, Offset: offset}
	}
	both(t, "select 1", query(-1, -1), "select 1")
	both(t, "select 1;", query(-1, -1), "select 1")
	both(t, " SELECT\n1 ; ", query(-1, -1), "select 1")
	both(t, "select 1 limit 0", query(0, -1), "select 1 limit 0")
	both(t, "select 1 offset 0", query(-1, 0), "select 1 offset 0")
	both(t, "select 1 limit 20000 offset 20000", query(20000, 20000), "select 1 limit 20000 offset 20000")
	both(t, "select 1 order by a", query(-1, -1, Key{Name: "a"}), "select 1 order by a")
	both(t, "select 1 order by a asc, 1 asc, B desc, 20000 desc limit 5 offset 6;",
		query(5, 6, Key{Name: "a"}, Key{At: 1}, Key{Name: "b", Desc: true}, Key{At: 20000, Desc: true}),
		"select 1 order by a , 1 , b desc , 20000 desc limit 5 offset 6")
	for _, s := range []string{
		"", ";", "select 1;;", "; select 1", "select 1 select 1", "select 1, ", "1", "a", "from t", "select 1 limit", "select 1 limit a", "select 1 limit 'a'",
		"select 1 limit -1", "select 1 limit - 1", "select 1 limit 1 + 1", "select 1 limit 1, 2", "select 1 limit 20001", "select 1 limit 9223372036854775807", "select 1 offset 20001",
		"select 1 offset", "select 1 offset 1 limit 1", "select 1 limit 1 limit 1", "select 1 limit 1 order by a", "select 1 offset 1 order by a", "select 1 order by a order by a",
		"select 1 order", "select 1 order by", "select 1 order a", "select 1 by a", "select 1 order by 0", "select 1 order by 20001", "select 1 order by 0 desc",
		"select 1 order by - 1", "select 1 order by 'a'", "select 1 order by a + 1", "select 1 order by a.b", "select 1 order by (a)", "select 1 order by true", "select 1 order by a,",
		"select 1 order by , a", "select 1 order by a asc desc", "select 1 order by a desc asc", "select 1 order by a asc asc", "select 1 order by asc", "select 1 order by a b", "select 1 asc",
	} {
		wrong(t, s, api.ErrSyntax)
	}
}

func TestBodies(t *testing.T) {
	a, b, c, d := items(col("a")), items(col("b")), items(col("c")), items(col("d"))
	both(t, "select a union select b", plain(set(syntax.Union, a, b)), "select a union select b")
	both(t, "select a except all select b", plain(all(set(syntax.Except, a, b))), "select a except all select b")
	both(t, "select a intersect all select b", plain(all(set(syntax.Intersect, a, b))), "select a intersect all select b")
	both(t, "select a union all select b except select c union select d",
		plain(set(syntax.Union, set(syntax.Except, all(set(syntax.Union, a, b)), c), d)), "select a union all select b except select c union select d")
	both(t, "select a intersect select b intersect all select c",
		plain(all(set(syntax.Intersect, set(syntax.Intersect, a, b), c))), "select a intersect select b intersect all select c")
	both(t, "select a union select b intersect select c except select d",
		plain(set(syntax.Except, set(syntax.Union, a, set(syntax.Intersect, b, c)), d)), "select a union select b intersect select c except select d")
	both(t, "select a intersect select b union select c intersect select d",
		plain(set(syntax.Union, set(syntax.Intersect, a, b), set(syntax.Intersect, c, d))), "select a intersect select b union select c intersect select d")
	both(t, "select a union select b order by a limit 1",
		Query{Body: set(syntax.Union, a, b), Keys: []Key{{Name: "a"}}, Limit: 1, Offset: -1}, "select a union select b order by a limit 1")
	both(t, "(select a)", plain(sub(plain(a))), "( select a )")
	both(t, "((select a limit 1) offset 2) order by 1", Query{
		Body: sub(Query{Body: sub(Query{Body: a, Limit: 1, Offset: -1}), Limit: -1, Offset: 2}),
		Keys: []Key{{At: 1}}, Limit: -1, Offset: -1,
	}, "( ( select a limit 1 ) offset 2 ) order by 1")
	both(t, "(select a union select b) intersect (select c) union select d",
		plain(set(syntax.Union, set(syntax.Intersect, sub(plain(set(syntax.Union, a, b))), sub(plain(c))), d)),
		"( select a union select b ) intersect ( select c ) union select d")
	both(t, "values (1)", plain(values([]Node{num(1)})), "values ( 1 )")
	both(t, "values (1, 'a'), (a or b, null) union values ((1, 2))",
		plain(set(syntax.Union, values([]Node{num(1), str("a")}, []Node{bin(col("a"), "or", col("b")), node(syntax.Nothing)}), values([]Node{tuple(num(1), num(2))}))),
		"values ( 1 , 'a' ) , ( a or b , null ) union values ( ( 1 , 2 ) )")
	for _, s := range []string{
		"()", "(select 1", "select 1)", "(1)", "(select 1;)", "(a)", "select 1 union", "union select 1", "select 1 union union select 1", "select 1 all select 1", "select 1 union distinct select 1",
		"select 1 union all", "select 1 union all all select 1", "select 1 intersect", "intersect select 1", "select 1 limit 1 union select 1", "select 1 order by 1 union select 1", "select 1 except 1",
		"(select 1) select 2", "select 1 (select 2)", "(select 1) as x", "values", "values 1", "values ()", "values (1", "values (1,)", "values (,1)", "values (1),", "values , (1)", "values (1) (2)",
		"values (1, )", "values ((1), (2)", "values (select 1)", "values (*)", "values (1 as a)", "values (distinct 1)", "values (1) from t", "values (1) where true",
	} {
		wrong(t, s, api.ErrSyntax)
	}
}

func TestSelects(t *testing.T) {
	a, b, c := col("a"), col("b"), col("c")
	both(t, "select distinct a, b", plain(Body{Op: syntax.Select, Distinct: true, Items: []Item{item(a), item(b)}}), "select distinct a , b")
	both(t, "select *, t.*, a as x, b y, t.a, t.b z from t", plain(Body{
		Op: syntax.Select,
		Items: []Item{
			{Star: true}, {Star: true, Table: "t"}, {Expr: []Node{a}, As: "x"}, {Expr: []Node{b}, As: "y"}, item(of("t.a")), {Expr: []Node{of("t.b")}, As: "z"},
		},
		From: []Source{table("t", "")},
	}), "select * , t . * , a as x , b as y , t . a , t . b as z from t")
	both(t, "select a where b or c group by a, b + c having b and c", plain(Body{
		Op: syntax.Select, Items: []Item{item(a)}, Where: []Node{bin(b, "or", c)}, Group: []Node{a, bin(b, "+", c)}, Having: []Node{bin(b, "and", c)},
	}), "select a where b or c group by a , b + c having b and c")
	both(t, "select a from t having true", plain(Body{
		Op: syntax.Select, Items: []Item{item(a)}, From: []Source{table("t", "")}, Having: []Node{node(syntax.True)},
	}), "select a from t having true")
	both(t, "select t.a * b, a.b c", plain(Body{
		Op: syntax.Select, Items: []Item{item(bin(of("t.a"), "*", b)), {Expr: []Node{of("a.b")}, As: "c"}},
	}), "select t . a * b , a . b as c")
	for _, s := range []string{
		"select", "select distinct", "select distinct distinct a", "select all a", "select a distinct", "select ,", "select a,", "select , a", "select a,, b", "select * as x", "select * x", "select t.* as x", "select t.* x",
		"select t.", "select .a", "select t..a", "select t.a.b", "select t.*.*", "select t.1", "select t.'a'", "select 1.a", "select t.select", "select (t).a", "select (t.*)", "select (*)", "select * *", "select * + 1", "select t.* + 1",
		"select a as", "select a as 1", "select a as 'x'", "select a as x y", "select a x y", "select a as as", "select a as select", "select a as x.y", "select (a as x)", "select a as (x)",
		"select a from", "select a from t where", "select a where", "select a having", "select a group by", "select a group a", "select a by a", "select a group by a,", "select a group by a as x", "select a group by *",
		"select a where b from t", "select a group by a where b", "select a having a group by a", "select a having a where b", "select a where a where a", "select a from t from t", "select a having a having a",
		"select a group by a group by a", "select a where a, b", "select a having a, b", "select a where a as x", "select a from t where *",
	} {
		wrong(t, s, api.ErrSyntax)
	}
}

func TestSources(t *testing.T) {
	u, v, w, on := table("u", ""), table("v", ""), table("w", ""), col("a")
	both(t, "select * from t", from(table("t", "")), "select * from t")
	both(t, "select * from t x, u as y, v", from(table("t", "x"), table("u", "y"), v), "select * from t as x , u as y , v")
	both(t, "select * from (select 1) x, (values (1)) as y, ((select 1 limit 1)) z", from(derived(chosen(num(1)), "x"), derived(plain(values([]Node{num(1)})), "y"),
		derived(plain(sub(Query{Body: items(num(1)), Limit: 1, Offset: -1})), "z")),
		"select * from ( select 1 ) as x , ( values ( 1 ) ) as y , ( ( select 1 limit 1 ) ) as z")
	both(t, "select * from u cross join v", from(join(syntax.Cross, u, v)), "select * from u cross join v")
	for _, x := range []struct {
		op          int
		in, printed string
	}{
		{syntax.InnerJoin, "join", "join"}, {syntax.InnerJoin, "inner join", "join"}, {syntax.LeftJoin, "left join", "left join"}, {syntax.LeftJoin, "left outer join", "left join"},
		{syntax.RightJoin, "right join", "right join"}, {syntax.RightJoin, "right outer join", "right join"}, {syntax.FullJoin, "full join", "full join"}, {syntax.FullJoin, "full outer join", "full join"},
	} {
		both(t, "select * from u "+x.in+" v on a", from(join(x.op, u, v, on)), "select * from u "+x.printed+" v on a")
		both(t, "select * from u x "+x.in+" (select 1) y on a or 1 "+x.in+" w z on a cross join u, v "+x.in+" w on a", from(
			join(syntax.Cross, join(x.op, join(x.op, table("u", "x"), derived(chosen(num(1)), "y"), bin(on, "or", num(1))), table("w", "z"), on), u), join(x.op, v, w, on)),
			"select * from u as x "+x.printed+" ( select 1 ) as y on a or 1 "+x.printed+" w as z on a cross join u , v "+x.printed+" w on a")
		for _, s := range []string{
			"u " + x.in + " v", "u " + x.in, x.in + " v on a", "u " + x.in + " on a", "u " + x.in + " v on", "u " + x.in + " v on a on a", "u " + x.in + " v on a, b on c", "u " + x.in + " (v) on a",
			"u " + x.in + " (select 1) on a", "u " + x.in + " v w x on a", "u " + x.in + " " + x.in + " v on a", "(u " + x.in + " v on a)", "u " + x.in + " v cross join w on a", "u cross " + x.in + " v on a", "u " + x.in + " v where a",
		} {
			wrong(t, "select * from "+s, api.ErrSyntax)
		}
	}
	for _, s := range []string{
		",", "t,", ", t", "t, , u", "1", "'t'", "t as", "t as 1", "t x y", "t as x y", "t.u", "t.*", "*", "select 1", "(t)", "(t) x", "(select 1)", "(select 1) as", "(select 1) 1", "(select 1) as x y", "(select 1 x", "() x", "(1) x", "((select 1) x) y",
		"u cross join v on a", "u cross v", "u cross outer join v", "u inner outer join v on a", "u outer join v on a", "u inner v on a", "u left v on a", "u left inner join v on a", "u natural join v", "u left x join v on a", "u full", "u cross join",
		"u join v on a b", "u join v using (a)", "left join u on a", "(u cross join v) x", "select", "t as where", "t(a)",
	} {
		wrong(t, "select * from "+s, api.ErrSyntax)
	}
}

func TestPrims(t *testing.T) {
	a, b, c, one := col("a"), col("b"), col("c"), num(1)
	for _, x := range []struct {
		in      string
		want    Node
		printed string
	}{
		{"0", num(0), "0"}, {"9223372036854775807", num(1<<63 - 1), "9223372036854775807"},
		{"''", str(""), "''"}, {"'It''s ''A'''", str("It's 'A'"), "'It''s ''A'''"}, {"''''", str("'"), "''''"}, {"'(a'", str("(a"), "'(a'"}, {"'select'", str("select"), "'select'"},
		{"'" + many("''", api.MaxText) + "'", str(many("'", api.MaxText)), "'" + many("''", api.MaxText) + "'"},
		{"true", node(syntax.True), "true"}, {"FALSE", node(syntax.False), "false"}, {"Null", node(syntax.Nothing), "null"},
		{"aBc_1", col("abc_1"), "abc_1"}, {"T.a", of("t.a"), "t . a"}, {"t . a", of("t.a"), "t . a"},
		{"count(*)", Node{Op: syntax.CountAll, Text: "count"}, "count ( * )"}, {"F(*)", Node{Op: syntax.CountAll, Text: "f"}, "f ( * )"},
		{"Sum(a)", call("sum", a), "sum ( a )"}, {"f(a or b, 1, c)", call("f", bin(a, "or", b), one, c), "f ( a or b , 1 , c )"},
		{"count(distinct a)", distinct(call("count", a)), "count ( distinct a )"}, {"f(distinct a, b)", distinct(call("f", a, b)), "f ( distinct a , b )"},
		{"f((a))", call("f", a), "f ( a )"}, {"f((a, b))", call("f", tuple(a, b)), "f ( ( a , b ) )"}, {"f((select 1))", call("f", scalar(chosen(one))), "f ( ( select 1 ) )"}, {"f(f(f(1)))", call("f", call("f", call("f", one))), "f ( f ( f ( 1 ) ) )"},
		{"exists (select 1)", exists(chosen(one)), "exists ( select 1 )"}, {"exists(values (1))", exists(plain(values([]Node{one}))), "exists ( values ( 1 ) )"},
		{"exists ((select 1) limit 1)", exists(Query{Body: sub(chosen(one)), Limit: 1, Offset: -1}), "exists ( ( select 1 ) limit 1 )"},
		{"(select 1)", scalar(chosen(one)), "( select 1 )"}, {"(values (1) limit 1)", scalar(Query{Body: values([]Node{one}), Limit: 1, Offset: -1}), "( values ( 1 ) limit 1 )"},
		{"((select 1))", scalar(chosen(one)), "( select 1 )"}, {"(((select 1)))", scalar(chosen(one)), "( select 1 )"},
		{"(select 1 union (select 1))", scalar(plain(set(syntax.Union, items(one), sub(chosen(one))))), "( select 1 union ( select 1 ) )"},
		{"((select 1) + 1)", bin(scalar(chosen(one)), "+", one), "( select 1 ) + 1"}, {"((select 1), 1)", tuple(scalar(chosen(one)), one), "( ( select 1 ) , 1 )"},
		{"(a)", a, "a"}, {"((((a))))", a, "a"}, {"(a, b)", tuple(a, b), "( a , b )"}, {"((a, b))", tuple(a, b), "( a , b )"}, {"((a, b), (c))", tuple(tuple(a, b), c), "( ( a , b ) , c )"}, {"(not a, b or c)", tuple(not(a), bin(b, "or", c)), "( not a , b or c )"},
		{"case when a then 1 end", node(syntax.Case, a, one), "case when a then 1 end"}, {"case when a then 1 else b end", node(syntax.Case, a, one, b), "case when a then 1 else b end"},
		{"case when a then 1 when b or c then (1) end", node(syntax.Case, a, one, bin(b, "or", c), one), "case when a then 1 when b or c then 1 end"},
		{"case when a then 1 when b then 1 else not c end", node(syntax.Case, a, one, b, one, not(c)), "case when a then 1 when b then 1 else not c end"},
		{"case when case when a then b end then (case when c then 1 end) end", node(syntax.Case, node(syntax.Case, a, b), node(syntax.Case, c, one)), "case when case when a then b end then case when c then 1 end end"},
	} {
		both(t, "select "+x.in, chosen(x.want), "select "+x.printed)
		both(t, "select "+x.in+", a = "+x.in+" from t", plain(Body{Op: syntax.Select, Items: []Item{item(x.want), item(bin(a, "=", x.want))}, From: []Source{table("t", "")}}),
			"select "+x.printed+" , a = "+x.printed+" from t")
	}
	for _, s := range []string{
		"()", "(", ")", "(a", "a)", "(a b)", "(a,)", "(,a)", "(a,,b)", "(a as b)", "(*)", "(distinct a)", "f()", "f(", "f(a", "f(a,)", "f(,a)", "f(*, a)", "f(a, *)", "f(* a)", "f(distinct)", "f(distinct *)", "f(a, distinct b)", "f(distinct distinct a)", "f(all a)",
		"f(select 1)", "f(t.*)", "f*)", "t.f(a)", "t.f(*)", "left(a)", "f(a)(b)", "f.a(b)", "1(a)", "'a'(b)", "exists", "exists a", "exists (a)", "exists ()", "exists (select 1", "exists select 1", "exists (1)", "exists f(a)", "not exists", "exists (select 1; )",
		"(select 1", "(select)", "(select 1 select 1)", "((select 1) union select 1)", "((select 1) limit 1)", "((select 1) order by 1)", "((values (1)) except select 1)", "(select 1, select 1)", "(a, select 1)", "(1 union select 1)",
		"case end", "case", "case when a end", "case when a then end", "case when a then 1", "case a when 1 then 2 end", "case else 1 end", "case when then 1 end", "case when a then 1 else end", "case when a then 1 else 2 else 3 end", "case when a then 1 else 2 when b then 3 end",
		"case when a, b then 1 end", "case when a then 1 then 2 end", "case then 1 end", "case when a when b then 1 end", "when a then 1 end", "end", "true(a)", "is", "in", "between", "as", "and", "or", "not", "by", "on", "=", "+", "%", "||", "a .", ". a", "1 1", "'a' 'b'", "true false", "a.b.c", "null null",
	} {
		wrong(t, "select "+s, api.ErrSyntax)
	}
}

func TestTests(t *testing.T) {
	a, b, c, d, one := col("a"), col("b"), col("c"), col("d"), chosen(num(1))
	for _, x := range []struct {
		in      string
		want    Node
		printed string
	}{
		{"a is null", node(syntax.IsNull, a), ""}, {"a is not null", negated(node(syntax.IsNull, a)), ""}, {"a is true", node(syntax.IsTrue, a), ""}, {"a is not true", negated(node(syntax.IsTrue, a)), ""},
		{"a is distinct from b", node(syntax.Differs, a, b), ""}, {"a is not distinct from b + c", negated(node(syntax.Differs, a, bin(b, "+", c))), ""},
		{"a in (b)", node(syntax.In, a, b), "a in ( b )"}, {"a in (b, c or d)", node(syntax.In, a, b, bin(c, "or", d)), "a in ( b , c or d )"}, {"a in ((b))", node(syntax.In, a, b), "a in ( b )"},
		{"a not in ((b, c), d)", negated(node(syntax.In, a, tuple(b, c), d)), "a not in ( ( b , c ) , d )"}, {"(a, b) in ((c, d))", node(syntax.In, tuple(a, b), tuple(c, d)), "( a , b ) in ( ( c , d ) )"},
		{"a in (select 1)", inQuery(a, one), "a in ( select 1 )"}, {"a not in (values (1))", negated(inQuery(a, plain(values([]Node{num(1)})))), "a not in ( values ( 1 ) )"},
		{"(a, b) in (select 1)", inQuery(tuple(a, b), one), "( a , b ) in ( select 1 )"}, {"a in (select 1 limit 1)", inQuery(a, Query{Body: one.Body, Limit: 1, Offset: -1}), "a in ( select 1 limit 1 )"},
		{"a in ((select 1))", node(syntax.In, a, scalar(one)), "a in ( ( select 1 ) )"}, {"a in ((select 1), b)", node(syntax.In, a, scalar(one), b), "a in ( ( select 1 ) , b )"},
		{"(select 1) in (select 1)", inQuery(scalar(one), one), "( select 1 ) in ( select 1 )"},
		{"a between b and c", node(syntax.Between, a, b, c), ""}, {"a not between b + c and c || d", negated(node(syntax.Between, a, bin(b, "+", c), bin(c, "||", d))), ""},
		{"a between b and c and d", bin(node(syntax.Between, a, b, c), "and", d), ""}, {"a between (b and c) and d", node(syntax.Between, a, bin(b, "and", c), d), "a between ( b and c ) and d"},
		{"a between b and (c and d)", node(syntax.Between, a, b, bin(c, "and", d)), "a between b and ( c and d )"},
		{"(a is null) is true", node(syntax.IsTrue, node(syntax.IsNull, a)), "( a is null ) is true"}, {"(a = b) is distinct from (c in (d))", node(syntax.Differs, bin(a, "=", b), node(syntax.In, c, d)), "( a = b ) is distinct from ( c in ( d ) )"},
		{"not a is null", not(node(syntax.IsNull, a)), ""}, {"(not a) is null", node(syntax.IsNull, not(a)), "( not a ) is null"}, {"- a is null", node(syntax.IsNull, minus(a)), ""}, {"a + b is not null", negated(node(syntax.IsNull, bin(a, "+", b))), ""},
		{"a in (b) or c is true", bin(node(syntax.In, a, b), "or", node(syntax.IsTrue, c)), "a in ( b ) or c is true"}, {"a in (b is null, not c)", node(syntax.In, a, node(syntax.IsNull, b), not(c)), "a in ( b is null , not c )"},
		{"not a not in (b)", not(negated(node(syntax.In, a, b))), "not a not in ( b )"}, {"not a not between b and c", not(negated(node(syntax.Between, a, b, c))), ""}, {"not not a is not null", not(not(negated(node(syntax.IsNull, a)))), ""},
		{"a || b in (c)", node(syntax.In, bin(a, "||", b), c), "a || b in ( c )"}, {"(a in (b)) in (c)", node(syntax.In, node(syntax.In, a, b), c), "( a in ( b ) ) in ( c )"},
	} {
		if x.printed == "" {
			x.printed = x.in
		}
		both(t, "select "+x.in, chosen(x.want), "select "+x.printed)
	}
	for _, s := range []string{
		"a is", "a is not", "a is b", "a is false", "a is not false", "a is 1", "a is not not null", "a not is null", "a is null null", "a is null is null", "a is null = b", "a = b is null", "a is (null)", "is null", "a is distinct", "a is distinct from", "a is distinct b",
		"a is distinct from not b", "a is distinct from b = c", "a is distinct from b is null", "a is from b", "a not null", "a not", "a not b", "a not = b", "a not not in (b)", "a not exists (select 1)", "a in", "a in b", "a in ()", "a in (", "a in (b", "a in (b,)", "a in (*)", "a in select 1",
		"a in (select 1", "a in (b, select 1)", "a in ((select 1) union select 1)", "a in ((select 1) limit 1)", "a in (b) in (c)", "a in (b) = c", "in (b)", "not in (b)", "a in not (b)", "a not in", "a in (distinct b)", "a in (b as c)",
		"a between b", "a between b and", "a between and c", "a between b or c", "a between b, c", "between b and c", "a between b = c and d", "a between not b and c", "a between b and not c", "a between b and c = d", "a between b and c between d and e", "a not between", "not between b and c", "a between b and c is null",
	} {
		wrong(t, "select "+s, api.ErrSyntax)
	}
}

func TestOperators(t *testing.T) {
	a, b, c, d := col("a"), col("b"), col("c"), col("d")
	levels := [][]string{{"or"}, {"and"}, {"=", "<>", "<", "<=", ">", ">="}, {"+", "-", "||"}, {"*", "/", "%"}}
	for i, ops := range levels {
		for _, op := range ops {
			both(t, "select a "+op+" b", chosen(bin(a, op, b)), "select a "+op+" b")
			for j, others := range levels {
				for _, other := range others {
					s := "select a " + op + " b " + other + " c"
					left, right := bin(bin(a, op, b), other, c), bin(a, op, bin(b, other, c))
					switch {
					case i == 2 && j == 2: // tests are no operands of tests
						wrong(t, s, api.ErrSyntax)
						both(t, "select (a "+op+" b) "+other+" c", chosen(left), "select ( a "+op+" b ) "+other+" c")
						both(t, "select a "+op+" (b "+other+" c)", chosen(right), "select a "+op+" ( b "+other+" c )")
					case i >= j:
						both(t, s, chosen(left), s)
						both(t, "select (a "+op+" b) "+other+" c", chosen(left), s)
						both(t, "select a "+op+" (b "+other+" c)", chosen(right), "select a "+op+" ( b "+other+" c )")
					default:
						both(t, s, chosen(right), s)
						both(t, "select a "+op+" (b "+other+" c)", chosen(right), s)
						both(t, "select (a "+op+" b) "+other+" c", chosen(left), "select ( a "+op+" b ) "+other+" c")
					}
				}
			}
			both(t, "select - a "+op+" - b", chosen(bin(minus(a), op, minus(b))), "select - a "+op+" - b")
			both(t, "select - (a "+op+" b)", chosen(minus(bin(a, op, b))), "select - ( a "+op+" b )")
			if i < 2 {
				both(t, "select not a "+op+" not b", chosen(bin(not(a), op, not(b))), "select not a "+op+" not b")
				both(t, "select not (a "+op+" b)", chosen(not(bin(a, op, b))), "select not ( a "+op+" b )")
			} else {
				both(t, "select not a "+op+" b", chosen(not(bin(a, op, b))), "select not a "+op+" b")
				both(t, "select (not a) "+op+" (not b)", chosen(bin(not(a), op, not(b))), "select ( not a ) "+op+" ( not b )")
				wrong(t, "select a "+op+" not b", api.ErrSyntax)
			}
			for _, s := range []string{"a " + op, op + " " + op + " a", "a " + op + " " + op + " b", "(a " + op + ") b", "a (" + op + " b)", "a " + op + " *"} {
				if op == "-" && s != "a -" && s != "(a -) b" && s != "a - *" {
					continue // a sign
				}
				wrong(t, "select "+s, api.ErrSyntax)
			}
		}
	}
	both(t, "select a - - b", chosen(bin(a, "-", minus(b))), "select a - - b")
	both(t, "select - - a", chosen(minus(minus(a))), "select - - a")
	both(t, "select -(-(a))", chosen(minus(minus(a))), "select - - a")
	both(t, "select a - (- b) * - c", chosen(bin(a, "-", bin(minus(b), "*", minus(c)))), "select a - - b * - c")
	both(t, "select -1", chosen(minus(num(1))), "select - 1")
	both(t, "select not not a", chosen(not(not(a))), "select not not a")
	both(t, "select not a = b and c", chosen(bin(not(bin(a, "=", b)), "and", c)), "select not a = b and c")
	both(t, "select (not a) = b", chosen(bin(not(a), "=", b)), "select ( not a ) = b")
	both(t, "select - (not a)", chosen(minus(not(a))), "select - ( not a )")
	both(t, "select not - a", chosen(not(minus(a))), "select not - a")
	both(t, "select a or b and c or d", chosen(bin(bin(a, "or", bin(b, "and", c)), "or", d)), "select a or b and c or d")
	both(t, "select ((a + b) * (c - d)) % (a * b) / c", chosen(bin(bin(bin(bin(a, "+", b), "*", bin(c, "-", d)), "%", bin(a, "*", b)), "/", c)), "select ( a + b ) * ( c - d ) % ( a * b ) / c")
	for _, s := range []string{"+ a", "a + + b", "not", "a not", "- ", "a and not", "* a", "a ! b", "a == b", "a <> = b", "a < = b", "a | | b", "a and or b", "not not"} {
		if _, e := syntax.Parse("select " + s); e != api.ErrSyntax && e != api.ErrToken {
			t.Errorf("%s: %v", s, e)
		}
	}
}
