package syntax_test

import (
	"strings"
	"testing"

	"tactician/api"
	"tactician/syntax"
)

// P9.1: the errors of tokens, and limits.

func TestErrorsOfTokens(t *testing.T) {
	for _, s := range []string{
		"select 'a", "select 01", "select 1a", "select $", "select a ! b", "select a == b #", "\t", "select 9223372036854775808", "select - 9223372036854775808", "select a:b", "select \"a\"",
		"select '" + many("a", api.MaxText+1) + "'", "select " + many("a", api.MaxName+1), "select 1 limit 00",
		"from from $", // before ErrSyntax
	} {
		wrong(t, s, api.ErrToken)
	}
	wrong(t, many("$", api.MaxSql+1), api.ErrLarge)   // before ErrToken
	wrong(t, many("from ", api.MaxSql), api.ErrLarge) // before ErrSyntax
	wrong(t, "select 1"+many(" ", api.MaxSql-7), api.ErrLarge)
	is(t, "select 1"+many(" ", api.MaxSql-8), chosen(num(1)))
	for _, s := range []string{many(" ", api.MaxSql), many("(", api.MaxSql), "select " + many("-", api.MaxSql-7), "select " + many("not ", 900), many("values ", 500), "select" + many(" case when", 300)} {
		wrong(t, s, api.ErrSyntax)
	}
}

// filled is s with other text at its #.
func filled(s, other string) string {
	return strings.Replace(s, "#", other, 1)
}

// Lists with commas have at most MaxCols elements.
func TestLongLists(t *testing.T) {
	for _, x := range []struct{ s, element string }{
		{"select #", "a"}, {"select #", "*"}, {"select #", "t.*"}, {"select #", "a as b"}, {"select distinct #", "a"}, {"select a from #", "t"}, {"select a from #", "(select 1) x"}, {"select a from #", "t join u on a"},
		{"select a group by #", "a"}, {"select a order by #", "a"}, {"select a order by #", "1 desc"}, {"values #", "(1)"}, {"values #", "(1, 2)"}, {"values (#)", "a"}, {"select 1 union values (1), (#)", "a"},
		{"select f(#)", "a"}, {"select f(distinct #)", "a"}, {"select (#)", "a"}, {"select (#) in (select 1)", "a"}, {"select a in (#)", "a"}, {"select a not in (#)", "(a, b)"}, {"select a from t where exists (select #)", "a"},
		{"select a in (select #)", "a"}, {"select a in (select a group by #)", "a"}, {"select (select #) from t", "a"}, {"select a from (select #) x, u", "a"}, {"(select #)", "a"},
	} {
		right := filled(x.s, rowOf(x.element, api.MaxCols))
		q, e := syntax.Parse(right)
		if e != api.OK {
			t.Errorf("%s: %v", right, e)
			continue
		}
		s, e := syntax.String(q)
		if e != api.OK {
			t.Errorf("%s: not printed: %v", right, e)
		}
		is(t, s, q)
		wrong(t, filled(x.s, rowOf(x.element, api.MaxCols+1)), api.ErrSyntax)
		wrong(t, filled(x.s, rowOf(x.element, 3*api.MaxCols)), api.ErrSyntax)
	}
	// Others are as long as the string allows.
	for _, s := range []string{
		"select a" + many(" or a", 500), "select a" + many("*a", 1900), "select a from t" + many(" cross join t", 200), "select a from t" + many(" join t on a", 200), "select a" + many(" union select a", 200),
		"select a" + many(" intersect select a", 200), "select case" + many(" when a then a", 200) + " end",
	} {
		q, e := syntax.Parse(s)
		if p, f := syntax.String(q); e != api.OK || f != api.OK && f != api.ErrLarge || f == api.OK && strings.ReplaceAll(p, " ", "") != strings.ReplaceAll(s, " ", "") {
			t.Errorf("%.50s: %v; %.50s, %v", s, e, p, f)
		}
	}
}

// What is nested is nested at most MaxDepth times.

func TestNesting(t *testing.T) {
	for _, x := range []string{
		"(#)", "- #", "f(#)", "f(1, #, 1)", "f(distinct #)", "case when # then 1 end", "case when 1 then # end", "case when 1 then 1 else # end", "case when 1 then 1 when # then 1 else 1 end", "case when 1 then 1 when 1 then # else 1 end",
		"(1, #)", "(#, 1)", "(1 + #)", "(1 * #)", "1 * (#)", "(# is null)", "(# = 1)", "(select #)", "(select # from t)", "(select 1 where #)", "(select 1 having # order by a)", "(select 1 group by a, #)", "(select 1 from t join u on #)",
		"(select 1 union select #)", "exists (select #)", "(select 1 union select # limit 1)",
	} {
		right := many(strings.Split(x, "#")[0], api.MaxDepth) + "a" + many(strings.Split(x, "#")[1], api.MaxDepth)
		q, e := syntax.Parse("select " + right)
		if e != api.OK {
			t.Errorf("%s: %v", x, e)
		}
		s, e := syntax.String(q)
		if e != api.OK {
			t.Errorf("%s: not printed: %v", x, e)
		}
		is(t, s, q)
		wrong(t, "select "+filled(x, right), api.ErrSyntax)
		wrong(t, filled("select ("+x+")", right), api.ErrSyntax)
		counts(t, filled(x, "a"), 1)
	}
	for _, x := range []struct {
		s     string
		times int
	}{
		// brackets, signs and cases in others, and beside others
		{"a", 0}, {"a + b", 0}, {"- a", 1}, {"not a", 1}, {"not - a", 2}, {"not not a", 2}, {"- - a", 2}, {"a - b - c", 0}, {"a - - b", 1}, {"- a + - b", 1}, {"not a and not b or not c", 1}, {"not a = - b", 2}, {"- (- a)", 3}, {"not (a, - b)", 3},
		{"(- a, (b), case when c then d end)", 2}, {"case when - a then (b, c) end", 2}, {"case when a then case when b then c end end", 2}, {"case when a then b end + case when c then d end", 1}, {"f(f(a), f(b))", 2},
		{"(select - a from (select (b)) x)", 3}, {"(select a from (select b) x)", 2}, {"exists (select 1 from t where exists (select 2))", 2}, {"(values (1))", 2}, {"(values (1), ((2)))", 3}, {"exists (values (1))", 2}, {"exists ((select 1))", 2}, {"exists (((select 1) union select - 1))", 3},
		{"a in (b)", 1}, {"a in (b, - c)", 2}, {"- a in (b)", 1}, {"- a in (- b)", 2}, {"not a in (b)", 2}, {"a in (select 1)", 1}, {"a in (select (1))", 2}, {"(a, b) in (c)", 1}, {"(a, (b)) in ((c))", 2}, {"a in ((select 1))", 2},
		// a test's own not, and what has no expression in it
		{"a is null", 0}, {"a is not null", 0}, {"a is not true", 0}, {"a is not distinct from b", 0}, {"a is not distinct from - b", 1}, {"a not between b and c", 0}, {"a not between - b and c", 1}, {"a not in (b)", 1}, {"a not in (- b)", 2}, {"count(*)", 0}, {"count(*) + f(a)", 1},
	} {
		counts(t, x.s, x.times)
	}
}

// counts tells that the expression s is nested so many times.
func counts(t *testing.T, s string, times int) {
	t.Helper()
	want, e := syntax.Parse("select " + s)
	if e != api.OK {
		t.Errorf("%s: %v", s, e)
		return
	}
	left := api.MaxDepth - times
	is(t, "select "+many("(", left)+s+many(")", left), want)
	wrong(t, "select "+many("(", left+1)+s+many(")", left+1), api.ErrSyntax)
	if p, _ := syntax.String(want); strings.ReplaceAll(p, " ", "") != strings.ReplaceAll("select"+s, " ", "") {
		return // brackets that the tree does not need
	}
	deep := want.Body.Items[0].Expr[0]
	for range left {
		deep = call("f", deep)
	}
	if p, e := syntax.String(chosen(deep)); e != api.OK {
		t.Errorf("%s: %q, %v", s, p, e)
	}
	hasNone(t, s, chosen(call("f", deep)), api.ErrSyntax)
}

func TestNestingOfQueries(t *testing.T) {
	n := api.MaxDepth
	deep := plain(items(num(1)))
	for range n {
		deep = plain(sub(deep))
	}
	both(t, many("(", n)+"select 1"+many(")", n), deep, many("( ", n)+"select 1"+many(" )", n))
	wrong(t, many("(", n+1)+"select 1"+many(")", n+1), api.ErrSyntax)
	hasNone(t, "Sub", plain(sub(deep)), api.ErrSyntax)
	is(t, many("(", n-1)+"values (1)"+many(")", n-1), mustParse(t, many("(", n-1)+" values (1)"+many(")", n-1)))
	wrong(t, many("(", n)+"values (1)"+many(")", n), api.ErrSyntax)
	wrong(t, many("(", n)+"select - 1"+many(")", n), api.ErrSyntax)
	wrong(t, many("(", n)+"select (1)"+many(")", n), api.ErrSyntax)
	wrong(t, many("(", n)+"select 1 union (select 2)"+many(")", n), api.ErrSyntax)
	wrong(t, many("(", n)+"select 1 from (select 2) x"+many(")", n), api.ErrSyntax)
	wrong(t, many("(", n)+"select 1 from t join u on - a"+many(")", n), api.ErrSyntax)

	deep = plain(items(num(1)))
	for range n {
		deep = from(derived(deep, "x"))
	}
	both(t, many("select * from (", n)+"select 1"+many(") x", n), deep, many("select * from ( ", n)+"select 1"+many(" ) as x", n))
	wrong(t, many("select * from (", n+1)+"select 1"+many(") x", n+1), api.ErrSyntax)
	hasNone(t, "Derived", from(derived(deep, "x")), api.ErrSyntax)
	is(t, many("select * from (", n)+"select 1"+many(") x", n)+" join (select 1) x on (a)", from(join(syntax.InnerJoin, deep.Body.From[0], derived(chosen(num(1)), "x"), col("a"))))
}

func mustParse(t *testing.T, s string) Query {
	t.Helper()
	q, e := syntax.Parse(s)
	if e != api.OK {
		t.Errorf("%s: %v", s, e)
	}
	return q
}
