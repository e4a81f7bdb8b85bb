package scalar_test

import (
	"math/rand/v2"
	"strings"
	"testing"

	"tactician/api"
	"tactician/scalar"
)

// P3.4

func TestSame(t *testing.T) {
	l := rightNodes()
	for _, s := range []string{"^1.1", "^2.0", "add($0, $1)", "add($1, $0)", "add($0, add($1, $2))", "add(add($0, $1), $2)", "and($0, $1, $2)", "and($0, and($1, $2))", "'null'", "1", "'1'"} {
		l = append(l, parse(s))
	}
	for _, a := range l {
		for _, b := range l {
			want := shown(a) == shown(b)
			if is, f := scalar.Same(a, deep(b)); is != want || f != api.OK {
				t.Errorf("%s and %s: %v, %v", shown(a), shown(b), is, f)
			}
		}
	}
	empty := api.Expr{Op: api.OCol, Args: []api.Expr{}, Rels: []api.Rel{}}
	if is, f := scalar.Same(col(0), empty); !is || f != api.OK {
		t.Errorf("empty lists and nil: %v, %v", is, f)
	}
	if is, f := scalar.Same(node(api.OIsNull, col(0)), node(api.OIsNull, empty)); !is || f != api.OK {
		t.Errorf("empty lists and nil, below: %v, %v", is, f)
	}
}

// written has expressions and their strings.
func written() map[string]api.Expr {
	out := map[string]api.Expr{
		"$0":                         col(0),
		"$12":                        col(12),
		"$9223372036854775807":       col(9223372036854775807),
		"^1.0":                       outer(1, 0),
		"^30.12":                     outer(30, 12),
		"^9223372036854775807.0":     outer(9223372036854775807, 0),
		"0":                          lit(number(0)),
		"-4":                         lit(number(-4)),
		"9223372036854775807":        lit(number(9223372036854775807)),
		"-9223372036854775808":       lit(number(-9223372036854775808)),
		"true":                       lit(yes),
		"false":                      lit(no),
		"null:int":                   nullOf(api.Int),
		"null:bool":                  nullOf(api.Bool),
		"null:text":                  nullOf(api.Text),
		"''":                         lit(text("")),
		"'it''s'":                    lit(text("it's")),
		"''''":                       lit(text("'")),
		"'add(1, 2)'":                lit(text("add(1, 2)")),
		"'null:int'":                 lit(text("null:int")),
		"concat('a, b', ')')":        node(api.OConcat, lit(text("a, b")), lit(text(")"))),
		"concat(''', ''', '''')":     node(api.OConcat, lit(text("', '")), lit(text("'"))),
		"eq(':', '$1')":              node(api.OEq, lit(text(":")), lit(text("$1"))),
		"isnull(isnull(^2.3))":       node(api.OIsNull, node(api.OIsNull, outer(2, 3))),
		"and(null:bool, true, $1)":   node(api.OAnd, nullOf(api.Bool), lit(yes), col(1)),
		"coalesce(1, add(-1, $1))":   node(api.OCoalesce, lit(number(1)), node(api.OAdd, lit(number(-1)), col(1))),
		"case(true, 1, false, 2, 3)": node(api.OCase, lit(yes), lit(number(1)), lit(no), lit(number(2)), lit(number(3))),
	}
	for i, w := range words {
		op := api.OAdd + api.Op(i)
		for _, n := range counts(op) {
			var args []string
			for _, c := range columns(n) {
				args = append(args, shown(c))
			}
			out[w+"("+strings.Join(args, ", ")+")"] = node(op, columns(n)...)
		}
	}
	return out
}

func TestString(t *testing.T) {
	for want, e := range written() {
		if s, f := scalar.String(e); s != want || f != api.OK {
			t.Errorf("%s, %v, not %s", s, f, want)
		}
	}
}

func TestParse(t *testing.T) {
	for s, want := range written() {
		if e, f := scalar.Parse(s); !equal(e, want) || f != api.OK {
			t.Errorf("%s: %s, %v", s, shown(e), f)
		}
	}
}

// noStrings are no strings of expressions.
func noStrings() []string {
	return []string{
		"", " ", "$", "$ ", "$-1", "$+1", "$01", "$00", "$a", "$1a", "$1.0", "$ 1", "$$1", "1$", "$0x1", "$1_0", "$9223372036854775808", "$99999999999999999999",
		"^", "^1", "^1.", "^.1", "^0.1", "^01.0", "^1.00", "^1.01", "^-1.0", "^1.-1", "^1,0", "^1.0.0", "^1 .0", "^1. 0", "^a.b", "^9223372036854775808.0",
		"null", "null:", "null:null", "null:Int", "null:integer", "null: int", "null :int", "null:int ", ":int", "null:intbool", "null:int:int", "1:int", "true:bool", "'a':text",
		"nul", "NULL:int", "True", "truefalse", "true false", "maybe", "007", "-0", "+1", "- 1", "1.0", "1 ", " 1", "9223372036854775808", "1,", "1, 2", "1)", "(1)", "1;",
		"'", "'''", "'a", "a'", "'a'b'", "'a''", "'a' ", "'a''b", "'\n'", "'\x7f'", "'\xff'", "'" + strings.Repeat("a", api.MaxText+1) + "'",
		"add", "add()", "add(", "add(1", "add(1,", "add(1, ", "add(1, 2", "add(1)", "add(1, 2, 3)", "add(1,2)", "add(1,  2)", "add( 1, 2)", "add(1, 2 )", "add (1, 2)",
		"add(1, 2))", "add(1, 2)(", "add(1, 2) ", " add(1, 2)", "add(, 2)", "add(1, )", "add(1, 2,)", "add(1, 2, )", "add(1 2)", "add(1, 2", "add[1, 2]", "Add(1, 2)", "ADD(1, 2)",
		"neg()", "neg(1, 2)", "not(true", "not(true, true)", "length()", "isnull()", "istrue()", "same(1)", "eq(1)", "eq(1, 2, 3)", "concat('a')",
		"and()", "and($0)", "or($0)", "coalesce()", "coalesce(1)", "case()", "case(1)", "case(1, 2)", "case(1, 2, 3, 4)", "case(" + strings.Repeat("true, ", 15) + "true)",
		"and(" + strings.Repeat("true, ", api.MaxCols) + "true)", "and(" + strings.Repeat("true, ", 3000) + "true)",
		"exists(1, $0)", "exists(1, scan(t))", "in(1, $0, scan(t))", "one(1, scan(t))", "col(1)", "lit(1)", "outer(1, 2)", "(", ")", ",", "((", "add(add", "foo(1)", "addd(1, 2)", "a(1)",
		"add(1, add(2, 3)", "add(add(1, 2, 3)", "add(add(1, 2), 3))", "add(1, '2)", "add(1, 2')", "add(1, 2)\n", "\nadd(1, 2)", "add(1,\t2)",
		"add(1, null)", "add(null, 1)", "add($01, 1)", "add(^0.1, 1)", "add(1, -0)",
		strings.Repeat("isnull(", 24) + "1" + strings.Repeat(")", 24),
		strings.Repeat("not(", 4000) + strings.Repeat(")", 4000),
		strings.Repeat("not(", api.MaxString/4),
		strings.Repeat("add(1, ", api.MaxString/7),
		strings.Repeat("(", api.MaxString),
		strings.Repeat("'", api.MaxString),
		strings.Repeat("9", api.MaxString),
		"$" + strings.Repeat("0", api.MaxString-1),
	}
}

func TestParseNone(t *testing.T) {
	for _, s := range noStrings() {
		if e, f := scalar.Parse(s); !equal(e, api.Expr{}) || f != api.ErrExpr {
			t.Errorf("%.60q: %s, %v, not ErrExpr", s, shown(e), f)
		}
	}
	for _, s := range []string{
		strings.Repeat("a", api.MaxString+1),
		strings.Repeat("1", api.MaxString+1),
		strings.Repeat(" ", 1<<20),
		"add('" + strings.Repeat("a", api.MaxString) + "', 'b')",
	} {
		if e, f := scalar.Parse(s); !equal(e, api.Expr{}) || f != api.ErrLarge {
			t.Errorf("%d bytes: %s, %v, not ErrLarge", len(s), shown(e), f)
		}
	}
}

// Each string that differs in one byte from that of an expression is none, or that of another one.
func TestParseChanged(t *testing.T) {
	for s := range written() {
		for i := range len(s) + 1 {
			for _, b := range []string{"", "(", ")", ",", " ", "'", "$", "^", ".", ":", "-", "0", "1", "n", "t", "\n", "\xff"} {
				changed := []string{s[:i] + b + s[i:]}
				if i < len(s) {
					changed = append(changed, s[:i]+b+s[i+1:])
				}
				for _, x := range changed {
					e, f := scalar.Parse(x)
					if f == api.OK && shown(e) != x || f != api.OK && (f != api.ErrExpr || !equal(e, api.Expr{})) {
						t.Fatalf("%q: %s, %v", x, shown(e), f)
					}
				}
			}
		}
	}
}

// All short strings of bytes that expressions are written with: those that Parse takes are written again as they were.
func TestBackAndThere(t *testing.T) {
	taken := 0
	var below func(s string, most int, of string)
	below = func(s string, most int, of string) {
		e, f := scalar.Parse(s)
		if f == api.OK {
			taken++
			if back, f := scalar.String(e); back != s || f != api.OK {
				t.Errorf("%q: %s, %q, %v", s, shown(e), back, f)
			}
		} else if f != api.ErrExpr || !equal(e, api.Expr{}) {
			t.Errorf("%q: %s, %v", s, shown(e), f)
		}
		if len(s) < most {
			for _, b := range of {
				below(s+string(b), most, of)
			}
		}
	}
	below("", 5, "$^.-'01")
	// In up to 5 bytes there are: the columns 0, and with up to 4 digits 0 or 1, the first one 1, 15 ones; the outer rows: n.m in
	// up to 4 bytes, n being 1, 10, 11 and m 0, 1, 10, 11, with at most 3 digits: 1 and four, 10 and 11 with two, 8; numbers: 0,
	// 31 with up to 5 digits, and 15 with up to 4 behind a -; texts: up to 3 bytes between, a quote counting as two of
	// them, of 6 others: 1, 6, 36 + 1, 216 + 12.
	if want := 16 + 8 + 1 + 31 + 15 + 1 + 6 + 37 + 228; taken != want {
		t.Errorf("%d strings are taken, not %d", taken, want)
	}
}

func TestLongStrings(t *testing.T) {
	long := lit(text(strings.Repeat("'", api.MaxText))) // 402 bytes
	joined := func(n int, last string) api.Expr {
		var l []api.Expr
		for range n {
			l = append(l, long)
		}
		e, f := scalar.Joined(append(l, lit(text(last))))
		if f != api.OK {
			t.Fatalf("%v", f)
		}
		return e
	}
	short := shown(joined(49, ""))
	if len(short) > api.MaxString-1 || len(short) < api.MaxString-401 {
		t.Fatalf("%d bytes", len(short))
	}
	free := api.MaxString - len(short)
	for _, n := range []int{free, free + 1} {
		last := strings.Repeat("'", max(0, n-api.MaxText)) + strings.Repeat("a", n-2*max(0, n-api.MaxText))
		e := joined(49, last)
		want := api.OK
		if n > free {
			want = api.ErrLarge
		}
		s, f := scalar.String(e)
		if f != want || f != api.OK && s != "" || f == api.OK && len(s) != api.MaxString {
			t.Errorf("%d bytes: %d, %v, not %v", len(shown(e)), len(s), f, want)
		}
		if f != api.OK {
			continue
		}
		if back, g := scalar.Parse(s); !equal(back, e) || g != api.OK {
			t.Errorf("%d bytes are not read back: %v", len(s), g)
		}
	}
	if s, f := scalar.String(joined(340, "")); s != "" || f != api.ErrLarge {
		t.Errorf("the longest one: %d bytes, %v", len(s), f)
	}
}

// P3.8

func TestThereAndBack(t *testing.T) {
	l := rightNodes()
	l = append(l, wide(api.MaxNodes, col(1)), chain(api.MaxDepth, lit(text("it's"))), parse("add(1, 'a')"), parse("and(^1.2, 3)"))
	for _, e := range l {
		s, f := scalar.String(e)
		if back, g := scalar.Parse(s); !equal(back, e) || f != api.OK || g != api.OK || s != shown(e) {
			t.Errorf("%s: %q, %s, %v, %v", shown(e), s, shown(back), f, g)
		}
	}
	some(t, 3000, func(_ *rand.Rand, e api.Expr) {
		s, f := scalar.String(e)
		back, g := scalar.Parse(s)
		if !equal(back, e) || f != api.OK || g != api.OK || s != shown(e) {
			t.Errorf("%q, %s, %v, %v", s, shown(back), f, g)
		}
	})
}
