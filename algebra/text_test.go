package algebra_test

import (
	"strconv"
	"strings"
	"testing"

	"tactician/algebra"
	"tactician/api"
)

// P6.3

func TestStrings(t *testing.T) {
	t1, u, yes := scan("t"), scan("u"), ex("true")
	for _, c := range []struct {
		want string
		rel  api.Rel
	}{
		{"scan(t)", t1},
		{"values(int; )", values("int", "")},
		{"values(int? bool text?; )", values("int? bool text?", "")},
		{"values(int; (1))", values("int", "(1)\n")},
		{"values(int bool? text?; (-1, true, 'it''s') (2, null, null) (-1, true, 'it''s'))", values("int bool? text?", "(-1, true, 'it''s')\n(2, null, null)\n(-1, true, 'it''s')\n")},
		{"values(text text; (') (', '; '', ''(') ('),', ']'))", values("text text", "(') (', '; '', ''(')\n('),', ']')\n")},
		{"filter(true, scan(t))", filter(yes, t1)},
		{"filter(and(gt($0, 1), not(isnull($1))), scan(t))", filter(ex("and(gt($0, 1), not(isnull($1)))"), t1)},
		{"map($0, add($1, -1), 'a, b)', null:bool, scan(t))", mapped(t1, exs("$0", "add($1, -1)", "'a, b)'", "null:bool")...)},
		{"map('scan(t)', scan(t))", mapped(t1, ex("'scan(t)'"))},
		{"map(case(isnull($1), 1, eq($0, 3), $0, null:int), coalesce($1, 0), length('('), scan(t))", mapped(t1, exs("case(isnull($1), 1, eq($0, 3), $0, null:int)", "coalesce($1, 0)", "length('(')")...)},
		{"join(inner, eq($0, $2), scan(t), scan(t))", join(api.Inner, ex("eq($0, $2)"), t1, t1)},
		{"join(left, true, scan(t), scan(u))", join(api.Left, yes, t1, u)},
		{"join(full, true, scan(t), scan(u))", join(api.Full, yes, t1, u)},
		{"join(semi, true, scan(t), scan(u))", join(api.Semi, yes, t1, u)},
		{"join(anti, null:bool, scan(t), scan(u))", join(api.Anti, ex("null:bool"), t1, u)},
		{"apply(1, inner, scan(t), scan(u))", apply(1, api.Inner, t1, u)},
		{"apply(20, left, scan(t), map(^20.1, scan(u)))", apply(20, api.Left, t1, mapped(u, ex("^20.1")))},
		{"apply(3, semi, scan(t), scan(u))", apply(3, api.Semi, t1, u)},
		{"apply(9223372036854775807, anti, scan(t), scan(u))", apply(1<<63-1, api.Anti, t1, u)},
		{"group([0], scan(t))", group(t1, []int{0})},
		{"group([0 1], scan(t))", group(t1, []int{0, 1})},
		{"group([], count, scan(t))", group(t1, nil, call(api.Count, 0))},
		{"group([1], count, some($0), sum($1), min($0), max($1), only($0), count, scan(t))", group(t1, []int{1}, call(api.Count, 0),
			call(api.Some, 0), call(api.Sum, 1), call(api.Min, 0), call(api.Max, 1), call(api.Only, 0), call(api.Count, 0))},
		{"group([], some(distinct $0), sum(distinct $1), sum($10), leaf(0; int int int int int int int int int int int; ))", group(wide(11), nil,
			distinct(api.Some, 0), distinct(api.Sum, 1), call(api.Sum, 10))},
		{"union(scan(t), scan(t))", union(t1, t1)},
		{"union(scan(t), scan(t), scan(t))", union(t1, t1, t1)},
		{"both(scan(t), scan(t))", both(false, t1, t1)},
		{"both(all, scan(t), scan(t))", both(true, t1, t1)},
		{"minus(scan(t), scan(t))", minus(false, t1, t1)},
		{"minus(all, scan(t), scan(t))", minus(true, t1, t1)},
		{"sort([], 0, -1, scan(t))", sorted(t1, 0, -1)},
		{"sort([1- 0], 2, 0, scan(t))", sorted(t1, 2, 0, api.Key{Col: 1, Desc: true}, api.Key{Col: 0})},
		{"sort([0-], 20000, 20000, scan(t))", sorted(t1, 20000, 20000, api.Key{Col: 0, Desc: true})},
		{"leaf(0; int; )", leaf(0, "int")},
		{"leaf(2000; text? bool int; [] [0] [0 1] [0 1 2])", leaf(2000, "text? bool int", nil, []int{0}, []int{0, 1}, []int{0, 1, 2})},
		{"filter(exists(1, scan(u)), scan(t))", filter(exists(1, u), t1)},
		{"filter(not(in(2, $0, add($0, 1), scan(t))), scan(t))", filter(node(api.ONot, in(2, t1, exs("$0", "add($0, 1)")...)), t1)},
		{"map(one(30, map(^30.0, scan(u))), 2, scan(t))", mapped(t1, one(30, mapped(u, ex("^30.0"))), ex("2"))},
		{"join(left, in(1, exists(2, scan(t)), leaf(1; bool; )), scan(t), scan(u))", join(api.Left, in(1, leaf(1, "bool"), exists(2, t1)), t1, u)},
	} {
		if s, e := algebra.String(shopBase(), c.rel); s != c.want || e != api.OK {
			t.Errorf("String: %s, %v, not %s", s, e, c.want)
		}
		if r, e := algebra.Parse(shopBase(), c.want); !equal(r, c.rel) || e != api.OK {
			t.Errorf("Parse of %s: %v, %v", c.want, r, e)
		}
	}
}

// noRel expects that s is the string of no relation.
func noRel(t *testing.T, s string) {
	t.Helper()
	if r, e := algebra.Parse(shopBase(), s); e != api.ErrRel || !isZero(r) {
		t.Errorf("%.200q: %v, %v", s, r, e)
	}
}

func TestParseOfNone(t *testing.T) {
	for _, s := range []string{
		"", " ", "t", "scan", "scan(", "scan()", "scan(t", "scan(t))", "scan(t) ", " scan(t)", "scan (t)", "scan( t)", "scan(t )", "Scan(t)", "scan(T)",
		"scan(w)", "scan('t')", "scan(t, u)", "scan(t)scan(t)", "scan(t)\n", "(scan(t))", "(t)", "()", ")", "(", "scan(scan(t))", "table(t)",
		"values", "values()", "values(int)", "values(int;)", "values(int; (1)", "values(int; (1)))", "values(int;(1))", "values(int;  (1))", "values(; )",
		"values(int, (1))", "values(Int; )", "values(int ?; )", "values(int??; )", "values(?; )", "values(int,int; )", "values(int  int; )", "values( int; )",
		"values(int ; )", "values(null; )", "values(int; ())", "values(int; 1)", "values(int; (1)(2))", "values(int; (1), (2))", "values(int; (1)  (2))",
		"values(int; (1) )", "values(int; (1) (2)", "values(int; (01))", "values(int; (+1))", "values(int; (1,2))", "values(int int; (1,2))",
		"values(int int; (1,  2))", "values(int; ( 1))", "values(int; (null))", "values(int; ('x'))", "values(text; ('x''))", "values(text; ('x)')", "values(text; (x))",
		"values(int; (1); )", "values(int; (1)\n(2))", "values(int; (1)\n)", "values(int; (9223372036854775808))", "values(int; (1, 2))", "values(bool; (True))",
		"filter", "filter()", "filter(true)", "filter(true, )", "filter(, scan(t))", "filter(scan(t))", "filter(true scan(t))", "filter(true,scan(t))",
		"filter(true,  scan(t))", "filter(true, scan(t)", "filter(true, scan(t),)", "filter(true, scan(t), scan(t))", "filter(true, true, scan(t))",
		"filter($0, scan(t))", "filter(scan(t), true)", "filter(true, t)", "filter(eq($0,1), scan(t))", "filter(eq($0, 1, 2), scan(t))", "filter(eq($0), scan(t))",
		"filter(eq(), scan(t))", "filter(eq($00, 1), scan(t))", "filter(eq($0, 01), scan(t))", "filter(eq($0, -0), scan(t))", "filter(is($0), scan(t))",
		"filter(eq ($0, 1), scan(t))", "filter(eq($0, 1 ), scan(t))", "filter(Eq($0, 1), scan(t))", "filter(true(), scan(t))", "filter((true), scan(t))",
		"filter(null, scan(t))", "filter(null:bool:bool, scan(t))", "filter($, scan(t))", "filter(isnull($2), scan(t))", "filter(isnull($-1), scan(t))",
		"filter(eq(^1.0, 1), scan(t))", "filter(eq('x, scan(t)), 'x'), scan(t))", "filter('true', scan(t))", "filter(isnull('it's'), scan(t))",
		"map(scan(t))", "map(, scan(t))", "map()", "map(1)", "map(1, 2)", "map(1,, scan(t))", "map(1, scan(t), 2)", "map(1, scan(t), scan(t))", "map(,,,)",
		"map(scan(t), scan(t))", "map(add($0, 'x'), scan(t))", "map($2, scan(t))", "map(1;2, scan(t))", "map(scan, scan(t))",
		"join", "join()", "join(inner, true, scan(t))", "join(inner, scan(t), scan(u))", "join(true, scan(t), scan(u))", "join(outer, true, scan(t), scan(u))",
		"join(Inner, true, scan(t), scan(u))", "join(, true, scan(t), scan(u))", "join(inner,true, scan(t), scan(u))", "join(inner, true, scan(t), scan(u), scan(u))",
		"join(inner, true, true, scan(t), scan(u))", "join(inner, $0, scan(t), scan(u))", "join(inner, true, scan(t) scan(u))", "join(0, true, scan(t), scan(u))",
		"apply(inner, scan(t), scan(u))", "apply(0, inner, scan(t), scan(u))", "apply(-1, inner, scan(t), scan(u))", "apply(1, full, scan(t), scan(u))",
		"apply(1, scan(t), scan(u))", "apply(01, inner, scan(t), scan(u))", "apply(+1, inner, scan(t), scan(u))", "apply(1, inner, true, scan(t), scan(u))",
		"apply(1, inner, scan(t))", "apply(9223372036854775808, inner, scan(t), scan(u))", "apply(, inner, scan(t), scan(u))", "apply(x, inner, scan(t), scan(u))",
		"apply(1 , inner, scan(t), scan(u))", "apply($1, inner, scan(t), scan(u))", "apply(1, inner, filter(eq(^1.0, 1), scan(t)), scan(u))",
		"group([], scan(t))", "group([1 0], scan(t))", "group([0 0], scan(t))", "group([2], scan(t))", "group([-1], scan(t))", "group(0, scan(t))", "group([0, scan(t))",
		"group([0],scan(t))", "group([0 ], scan(t))", "group([ 0], scan(t))", "group([0  1], scan(t))", "group([0, 1], scan(t))", "group([00], scan(t))",
		"group([x], scan(t))", "group([$0], scan(t))", "group([0], , scan(t))", "group([0] count, scan(t))", "group([0], count)", "group([0])", "group(scan(t))",
		"group(count, [0], scan(t))", "group([0], count(), scan(t))", "group([0], count($0), scan(t))", "group([0], sum, scan(t))", "group([0], sum(), scan(t))",
		"group([0], sum(0), scan(t))", "group([0], sum($2), scan(t))", "group([0], sum($-1), scan(t))", "group([0], sum($00), scan(t))", "group([0], sum($0, scan(t))",
		"group([0], sum( $0), scan(t))", "group([0], sum(distinct$0), scan(t))", "group([0], sum(distinct  $0), scan(t))", "group([0], sum(distinct), scan(t))",
		"group([0], count(distinct $0), scan(t))", "group([0], min(distinct $0), scan(t))", "group([0], max(distinct $0), scan(t))", "group([0], only(distinct $0), scan(t))",
		"group([0], all($0), scan(t))", "group([0], ($0), scan(t))", "group([], sum($0), scan(u))", "group([], sum(add($0, 1)), scan(t))", "group([], Count, scan(t))",
		"group([], count, scan(t), scan(t))", "group([], min($0)), scan(t))", "group([], count,count, scan(t))",
		"union()", "union(scan(t))", "union(scan(t), scan(u))", "union(scan(t),scan(t))", "union(scan(t), scan(t),)", "union(all, scan(t), scan(t))", "union(, scan(t), scan(t))",
		"both(scan(t))", "both(all, scan(t))", "both(all scan(t), scan(t))", "both(all,scan(t), scan(t))", "both(All, scan(t), scan(t))", "both(scan(t), scan(t), scan(t))",
		"both(all, all, scan(t), scan(t))", "both(scan(t), all, scan(t))", "both(scan(t), scan(u))", "minus(scan(t), scan(t), all)", "minus(scan(t))", "minus(distinct, scan(t), scan(t))",
		"sort(scan(t))", "sort([], scan(t))", "sort([], 0, scan(t))", "sort(0, -1, scan(t))", "sort([], 0, -1)", "sort([], 0, -1, )", "sort([0 0], 0, -1, scan(t))",
		"sort([0 0-], 0, -1, scan(t))", "sort([2], 0, -1, scan(t))", "sort([-0], 0, -1, scan(t))", "sort([-1], 0, -1, scan(t))", "sort([0--], 0, -1, scan(t))",
		"sort([0 -], 0, -1, scan(t))", "sort([0+], 0, -1, scan(t))", "sort([0,1], 0, -1, scan(t))", "sort([], -1, 0, scan(t))", "sort([], 0, -2, scan(t))",
		"sort([], 20001, 0, scan(t))", "sort([], 0, 20001, scan(t))", "sort([], 00, 0, scan(t))", "sort([], 0, +1, scan(t))", "sort([], , 1, scan(t))",
		"sort([], 0, -01, scan(t))", "sort([], 0,-1, scan(t))", "sort([],0, -1, scan(t))", "sort(, 0, -1, scan(t))", "sort([], 0, 4294967296, scan(t))",
		"sort([0 ], 0, -1, scan(t))", "sort([], 0, 1, scan(t), scan(t))", "sort([], 0, 18446744073709551616, scan(t))",
		"leaf()", "leaf(1)", "leaf(1; int)", "leaf(1; int;)", "leaf(1;int; )", "leaf(1; ; )", "leaf(int; )", "leaf(-1; int; )", "leaf(2001; int; )", "leaf(01; int; )",
		"leaf(; int; )", "leaf(x; int; )", "leaf(1; int; [1])", "leaf(1; int; [-1])", "leaf(1; int; [0 0])", "leaf(1; int int; [1 0])", "leaf(1; int; 0)",
		"leaf(1; int; [0][0])", "leaf(1; int; [0] )", "leaf(1; int; [0]  [0])", "leaf(1; int; [0)", "leaf(1; int; [0 )", "leaf(1; int; [ ])", "leaf(1; int; [0]; )",
		"leaf(1, int, )", "leaf(1; int; (0))", "leaf(1; int; [0], [0])", "leaf(1; int; [] [] [] [] [] [] [] [] [])",
		"filter(exists(scan(u)), scan(t))", "filter(exists(1), scan(t))", "filter(exists(1, ), scan(t))", "filter(exists(0, scan(u)), scan(t))",
		"filter(exists(01, scan(u)), scan(t))", "filter(exists(1,scan(u)), scan(t))", "filter(exists(1, scan(u), scan(u)), scan(t))", "filter(exists(1, $0, scan(u)), scan(t))",
		"filter(exists(1, scan(w)), scan(t))", "filter(exists(1, true), scan(t))", "filter(exists(1, scan(u), 1), scan(t))", "filter(exists, scan(t))", "exists(1, scan(t))",
		"filter(in(1, scan(t)), scan(t))", "filter(in(1, $0, scan(t)), scan(t))", "filter(in($0, map($0, scan(t))), scan(t))", "filter(in(1, $0), scan(t))",
		"filter(in(1, 'x', map($0, scan(t))), scan(t))", "filter(in(1, $0,map($0, scan(t))), scan(t))", "filter(in(1, map($0, scan(t)), $0), scan(t))",
		"filter(in(-1, $0, map($0, scan(t))), scan(t))", "filter(one(1, map($0, scan(t))), scan(t))", "map(one(1, scan(t)), scan(t))", "map(one(1, $0, map($0, scan(t))), scan(t))",
		"map(one(1), scan(t))", "map(one(), scan(t))", "map(two(1, map($0, scan(t))), scan(t))", "in(1, 1, values(int; ))", "filter(exists(1, filter(eq(^2.0, 1), scan(t))), scan(t))",
		"add(1, 2)", "true", "$0", "1", "'scan(t)'", "null", "values(int; )x", "\x00", "scan(\xff)", "values(text; ('\n'))", "values(text; ('\xc3\xa9'))",
	} {
		noRel(t, s)
	}
}

// TestParseOfChanged has the strings that differ from one of a relation in a byte: what is still one is read as what is
// written so.
func TestParseOfChanged(t *testing.T) {
	b := shopBase()
	right := 0
	check := func(s string) {
		r, e := algebra.Parse(b, s)
		if e == api.ErrRel && isZero(r) {
			return
		}
		right++
		if back, f := algebra.String(b, r); e != api.OK || f != api.OK || back != s {
			t.Errorf("%q: %v, %q", s, e, back)
		}
	}
	for _, s := range []string{
		"sort([1- 0], 2, -1, group([1], count, sum(distinct $0), both(all, scan(t), values(int int?; (1, null) (2, 3)))))",
		"apply(1, left, leaf(3; int bool?; [0] [0 1]), map(case(in(2, $0, 'x', scan(u)), ^1.0, 7), one(1, values(text; ('(')))), union(scan(u), scan(u))))",
	} {
		for i := range s {
			check(s[:i])
			check(s[i:])
			check(s[:i] + s[i+1:])
			for _, c := range " ,()[];$-?01'at" {
				check(s[:i] + string(c) + s[i:])
				check(s[:i] + string(c) + s[i+1:])
			}
		}
	}
	if right < 20 {
		t.Errorf("only %d of the changed strings were ones of relations", right)
	}
}

// longRel has a string of n bytes.
func longRel(n int) api.Rel {
	text := func(n int) []api.Value { return []api.Value{{Kind: api.Text, Text: strings.Repeat("x", n)}} }
	r := api.Rel{Op: api.RValues, Cols: columns("text")}
	left := n - len("values(text; )")
	for left > 0 {
		now := min(left, 100)
		if left > 100 && left < 110 { // so that there is enough for another row
			now = 50
		}
		r.Rows = append(r.Rows, text(now-len("('') ")))
		left -= now
	}
	last := r.Rows[len(r.Rows)-1]
	last[0].Text += "x" // no blank behind it
	return r
}

func TestLongStrings(t *testing.T) {
	b := shopBase()
	for _, n := range []int{1000, api.MaxString - 1, api.MaxString} {
		r := longRel(n)
		s, e := algebra.String(b, r)
		if len(s) != n || e != api.OK {
			t.Fatalf("%d: %d, %v", n, len(s), e)
		}
		if back, e := algebra.Parse(b, s); !equal(back, r) || e != api.OK {
			t.Errorf("%d read back: %v", n, e)
		}
	}
	quotes := api.Expr{Op: api.OLit, Kind: api.Text, Lit: api.Value{Kind: api.Text, Text: strings.Repeat("'", api.MaxText)}}
	manyTexts := mapped(scan("t"), copies(16, node(api.OCoalesce, copies(4, quotes)...))...)
	for name, r := range map[string]api.Rel{
		"one more":             longRel(api.MaxString + 1),
		"rows alone":           longRel(api.MaxString + 14),
		"very long":            longRel(100000),
		"together":             union(longRel(api.MaxString/2), longRel(api.MaxString/2)),
		"in an expression":     filter(exists(1, longRel(api.MaxString)), scan("t")),
		"around the longest":   sorted(longRel(api.MaxString), 0, -1),
		"of expressions":       manyTexts,
		"many times very long": union(copies(16, union(copies(16, longRel(100000))...))...),
	} {
		if e := algebra.Check(b, r); e != api.OK {
			t.Fatalf("%s: %v", name, e)
		}
		if s, e := algebra.String(b, r); s != "" || e != api.ErrLarge {
			t.Errorf("%s: %d, %v", name, len(s), e)
		}
	}
	for s, want := range map[string]api.Errno{
		strings.Repeat(" ", api.MaxString):                   api.ErrRel,
		strings.Repeat(" ", api.MaxString+1):                 api.ErrLarge,
		strings.Repeat("(", api.MaxString):                   api.ErrRel,
		strings.Repeat("sort([], 0, -1, ", 1250):             api.ErrRel,
		strings.Repeat("not(", 5000):                         api.ErrRel,
		"map(" + strings.Repeat("1, ", 6000):                 api.ErrRel,
		"filter(" + strings.Repeat("not(", 4000) + "true":    api.ErrRel,
		"filter(and(" + strings.Repeat("true, ", 3000):       api.ErrRel,
		"group([" + strings.Repeat("0 ", 9000) + "], ":       api.ErrRel,
		"group([], " + strings.Repeat("count, ", 2000):       api.ErrRel,
		"leaf(1; int; " + strings.Repeat("[] ", 6000):        api.ErrRel,
		"values(int; " + strings.Repeat("(1) ", 4900):        api.ErrRel,
		"values(text; ('" + strings.Repeat("'", 15001):       api.ErrRel,
		strings.Repeat("'", api.MaxString):                   api.ErrRel,
		"scan(t)" + strings.Repeat("x", api.MaxString):       api.ErrLarge,
		"scan(" + strings.Repeat("t", api.MaxString-6) + ")": api.ErrRel,
	} {
		if r, e := algebra.Parse(b, s); e != want || !isZero(r) {
			t.Errorf("%.30q: %v, %v", s, e, r.Op)
		}
	}
}

// TestParseToTheLimits: what has not the form because it is too large is read as none.
func TestParseToTheLimits(t *testing.T) {
	b := shopBase()
	for _, c := range []struct {
		rel      api.Rel
		old, new string // what makes it too large
	}{
		{deepRel(api.MaxDepth), "scan(t)", "sort([], 0, -1, scan(t))"},
		{filter(deepExpr(api.MaxDepth-1), scan("t")), "true", "not(true)"},
		{manyRels(api.MaxNodes), "scan(t)", "sort([], 0, -1, scan(t))"},
		{manyExprs(api.MaxNodes), "true", "not(true)"},
		{manyExprs(api.MaxNodes), "scan(t)", "sort([], 0, -1, scan(t))"},
	} {
		s, e := algebra.String(b, c.rel)
		if e != api.OK {
			t.Fatalf("%v", e)
		}
		if back, e := algebra.Parse(b, s); !equal(back, c.rel) || e != api.OK {
			t.Errorf("%s: %v", s, e)
		}
		noRel(t, strings.Replace(s, c.old, c.new, 1))
	}
	for n := range 3 {
		cols := api.MaxCols - 1 + n
		s := "map(" + strings.Repeat("1, ", cols) + "scan(t))"
		if _, e := algebra.Parse(b, s); (e == api.OK) != (cols <= api.MaxCols) {
			t.Errorf("%d columns: %v", cols, e)
		}
		s = "filter(and(true" + strings.Repeat(", true", cols-1) + "), scan(t))"
		if _, e := algebra.Parse(b, s); (e == api.OK) != (cols <= api.MaxCols) {
			t.Errorf("%d arguments: %v", cols, e)
		}
		s = "leaf(" + strconv.Itoa(api.MaxFuel-1+n) + "; int; )"
		if _, e := algebra.Parse(b, s); (e == api.OK) != (n <= 1) {
			t.Errorf("%s: %v", s, e)
		}
	}
}
