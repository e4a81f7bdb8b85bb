package logic_test

import (
	"math/rand/v2"
	"reflect"
	"slices"
	"strconv"
	"strings"
	"testing"

	"tactician/api"
	"tactician/logic"
	"tactician/scalar"
)

// P4.1: each step, and what just misses it.
func TestSteps(t *testing.T) {
	for _, c := range []struct{ expr, want string }{
		{"7", "7"}, {"$1", "$1"}, {"null:text", "null:text"},
		// 1
		{"add(2, 3)", "5"}, {"div(7, 0)", "null:int"}, {"concat('a', null:text)", "null:text"}, {"length('abc')", "3"},
		{"lt('a', 'b')", "true"}, {"eq(null:text, 'a')", "null:bool"}, {"isnull(null:text)", "true"}, {"istrue(null:bool)", "false"},
		{"same(null:int, null:int)", "true"}, {"case(null:bool, 'a', 'b')", "'b'"}, {"case(true, null:text, 'b')", "null:text"},
		{"coalesce(null:bool, null:bool)", "null:bool"}, {"coalesce(null:int, 4, 5)", "4"}, {"neg(add(1, 1))", "-2"},
		{"and(true, null:bool)", "null:bool"}, {"mul(9223372036854775807, 2)", "-2"}, {"not(null:bool)", "null:bool"},
		// 2
		{"and($3, $4)", "and($3, $4)"}, {"and($3, and($4, isnull($1)))", "and($3, $4, isnull($1))"},
		{"and(and($3, $4), isnull($1), and(isnull($2), $3))", "and($3, $4, isnull($1), isnull($2))"},
		{"and($3, or($3, $4))", "and($3, or($3, $4))"}, {"or($3, and($3, $4))", "or($3, and($3, $4))"},
		{"and($3, true)", "$3"}, {"and(true, $3, true, $4)", "and($3, $4)"}, {"and($3, $3)", "$3"},
		{"and($4, $3, $4, $3, $4)", "and($4, $3)"}, {"and($3, $4, false, isnull($1))", "false"}, {"and($3, null:bool)", "and($3, null:bool)"},
		{"and($3, null:bool, null:bool)", "and($3, null:bool)"}, {"and($3, not($3))", "and($3, not($3))"},
		{"or($3, or($4, isnull($1)))", "or($3, $4, isnull($1))"}, {"or($3, false)", "$3"}, {"or($3, $4, $3)", "or($3, $4)"},
		{"or($3, true, $4)", "true"}, {"or($3, null:bool)", "or($3, null:bool)"}, {"or($3, $3, false, false)", "$3"},
		// 3
		{"not($3)", "not($3)"}, {"not(not($3))", "$3"}, {"not(not(not($3)))", "not($3)"}, {"not(isnull($1))", "not(isnull($1))"},
		{"not(eq($0, $1))", "ne($0, $1)"}, {"not(ne($0, $1))", "eq($0, $1)"}, {"not(lt($0, $1))", "ge($0, $1)"},
		{"not(le($0, $1))", "gt($0, $1)"}, {"not(gt($0, $1))", "le($0, $1)"}, {"not(ge($0, $1))", "lt($0, $1)"},
		{"not(same($0, $1))", "not(same($0, $1))"}, {"not(and($3, $4))", "or(not($3), not($4))"},
		{"not(or($3, not($4), isnull($1)))", "and(not($3), $4, not(isnull($1)))"},
		{"not(and(or($3, lt($0, $1)), not($4)))", "or(and(not($3), ge($0, $1)), $4)"}, {"not(istrue($3))", "not(istrue($3))"},
		// 4
		{"add($1, null:int)", "null:int"}, {"sub(null:int, $1)", "null:int"}, {"mul($0, null:int)", "null:int"},
		{"div($0, null:int)", "null:int"}, {"mod(null:int, $0)", "null:int"}, {"concat(null:text, $5)", "null:text"},
		{"eq($0, null:int)", "null:bool"}, {"ne(null:text, $5)", "null:bool"}, {"lt($0, null:int)", "null:bool"},
		{"le($0, null:int)", "null:bool"}, {"gt($0, null:int)", "null:bool"}, {"ge($0, null:int)", "null:bool"},
		{"mul(0, null:int)", "null:int"}, {"neg(add($0, null:int))", "null:int"}, {"length(concat($2, null:text))", "null:int"},
		// 5
		{"add($1, 0)", "$1"}, {"add(0, $1)", "$1"}, {"add($1, 1)", "add($1, 1)"}, {"sub($1, 0)", "$1"}, {"sub(0, $1)", "sub(0, $1)"},
		{"mul($1, 1)", "$1"}, {"mul(1, $1)", "$1"}, {"div($1, 1)", "$1"}, {"div(1, $1)", "div(1, $1)"}, {"div(0, $0)", "div(0, $0)"},
		{"mod($0, 1)", "mod($0, 1)"}, {"concat($2, '')", "$2"}, {"concat('', $2)", "$2"}, {"concat($2, 'a')", "concat($2, 'a')"},
		{"mul($0, 0)", "0"}, {"mul(0, $0)", "0"}, {"mul($1, 0)", "mul($1, 0)"}, {"mul(0, $1)", "mul(0, $1)"},
		{"mul(0, div($0, $0))", "mul(0, div($0, $0))"}, {"mul(coalesce($1, $0), 0)", "0"}, {"mul(length($5), 0)", "0"},
		// 6
		{"eq(3, $0)", "eq($0, 3)"}, {"ne(3, $0)", "ne($0, 3)"}, {"lt(3, $0)", "gt($0, 3)"}, {"le(3, $0)", "ge($0, 3)"},
		{"gt(3, $0)", "lt($0, 3)"}, {"ge(3, $0)", "le($0, 3)"}, {"same(3, $1)", "same(3, $1)"}, {"lt($1, $0)", "lt($1, $0)"},
		{"gt('a', concat($5, 'b'))", "lt(concat($5, 'b'), 'a')"},
		// 7
		{"eq($3, true)", "$3"}, {"eq(true, $3)", "$3"}, {"eq($3, false)", "not($3)"}, {"eq(false, lt($0, $1))", "ge($0, $1)"},
		{"ne($3, true)", "ne($3, true)"}, {"ne($3, false)", "ne($3, false)"}, {"not(ne($3, true))", "$3"}, {"eq($3, $4)", "eq($3, $4)"},
		// 8
		{"eq($0, $0)", "true"}, {"ne($0, $0)", "false"}, {"lt($5, $5)", "false"}, {"le($5, $5)", "true"}, {"gt($4, $4)", "false"},
		{"ge($0, $0)", "true"}, {"eq($1, $1)", "eq($1, $1)"}, {"ge($2, $2)", "ge($2, $2)"}, {"lt(div($0, 2), div($0, 2))", "lt(div($0, 2), div($0, 2))"},
		{"eq(add($0, 1), add($0, 2))", "eq(add($0, 1), add($0, 2))"}, {"eq(add(0, $0), mul($0, 1))", "true"},
		// 9
		{"isnull($0)", "false"}, {"isnull($1)", "isnull($1)"}, {"isnull(isnull($1))", "false"}, {"isnull(mod($0, 2))", "isnull(mod($0, 2))"},
		{"istrue($4)", "$4"}, {"istrue($3)", "istrue($3)"}, {"istrue(istrue($3))", "istrue($3)"}, {"istrue(isnull($1))", "isnull($1)"},
		{"isnull(case($3, $0, $1))", "isnull(case($3, $0, $1))"}, {"isnull(case($3, $0, 1))", "false"}, {"isnull(and($3, $4))", "isnull(and($3, $4))"},
		{"isnull(coalesce($1, 3))", "false"}, {"isnull(coalesce($1, $6))", "isnull(coalesce($1, $6))"},
		// 10
		{"same($1, $1)", "true"}, {"same($1, null:int)", "isnull($1)"}, {"same(null:int, $1)", "isnull($1)"}, {"same($0, null:int)", "false"},
		{"same($0, 4)", "eq($0, 4)"}, {"same(4, $0)", "eq($0, 4)"}, {"same($1, 4)", "same($1, 4)"}, {"same($0, $1)", "same($0, $1)"},
		{"same($4, true)", "$4"}, {"same($3, true)", "same($3, true)"}, {"same(div($0, $0), div($0, $0))", "true"},
		// 11
		{"case(false, 1, $3, 2, 3)", "case($3, 2, 3)"}, {"case(null:bool, 1, $1)", "$1"}, {"case(true, $1, $3, 2, 3)", "$1"},
		{"case($3, 1, false, 2, 3)", "case($3, 1, 3)"}, {"case($3, 1, null:bool, 2, $4, 4, 3)", "case($3, 1, $4, 4, 3)"},
		{"case($3, 1, true, 2, $4, 4, 3)", "case($3, 1, 2)"}, {"case($3, 1, $4, 2, true, 5, 6)", "case($3, 1, $4, 2, 5)"},
		{"case($3, 1, false, 2, true, 4, 5)", "case($3, 1, 4)"}, {"case($3, $0, $4, $0, $0)", "$0"}, {"case($3, $0, $4, 1, $0)", "case($3, $0, $4, 1, $0)"},
		{"case($3, 1, $4, $0, $0)", "case($3, 1, $4, $0, $0)"}, {"case($3, $0, $4, $0, 1)", "case($3, $0, $4, $0, 1)"},
		{"case(false, 1, true, 2, 3)", "2"}, {"case($3, 1, false, 2, 1)", "1"}, {"case($3, true, $4)", "case($3, true, $4)"},
		{"case($3, 2, true, 2, 5)", "2"}, {"case(isnull($0), 1, $3, 2, 3)", "case($3, 2, 3)"},
		// 12
		{"coalesce(null:int, $1, null:int, $6)", "coalesce($1, $6)"}, {"coalesce($1, null:int)", "$1"}, {"coalesce($1, $0, 7, $6)", "coalesce($1, $0)"},
		{"coalesce($0, $1)", "$0"}, {"coalesce($1, $6, $0)", "coalesce($1, $6, $0)"}, {"coalesce($1, $1)", "coalesce($1, $1)"},
		{"coalesce(3, null:int, $1)", "3"}, {"coalesce($3, false)", "coalesce($3, false)"},
	} {
		got := shown(logic.Simplify(parse(c.expr), cols()))
		if got != c.want {
			t.Errorf("%s: %s, not %s", c.expr, got, c.want)
		}
		if want := shown(oracle(parse(c.expr), cols()), api.OK); want != c.want {
			t.Errorf("%s: the test's own simplifier: %s, not %s", c.expr, want, c.want)
		}
	}
}

// P4.1: what is gathered, and what would have too many Args.
func TestGathered(t *testing.T) {
	wide := func(op string, from, to int, more ...string) string {
		var l []string
		for n := from; n < to; n++ {
			l = append(l, "isnull(mod($0, "+strings.Repeat("1", n+1)+"))")
		}
		return op + "(" + strings.Join(append(l, more...), ", ") + ")"
	}
	for _, c := range []struct{ expr, want string }{
		{wide("and", 0, 14, "and($3, $4)"), wide("and", 0, 14, "$3", "$4")},
		{wide("and", 0, 15, "and($3, $4)"), wide("and", 0, 15, "and($3, $4)")},
		{wide("or", 0, 13, "or($3, $4, isnull($1))"), wide("or", 0, 13, "$3", "$4", "isnull($1)")},
		{wide("or", 0, 14, "or($3, $4, isnull($1))"), wide("or", 0, 14, "or($3, $4, isnull($1))")},
		// the first one that fits, and then the other one does not
		{wide("and", 0, 13, "and($3, $4, isnull($1))", "and($3, isnull($2))"), wide("and", 0, 13, "and($3, $4, isnull($1))", "$3", "isnull($2)")},
		{wide("and", 0, 13, "and($3, isnull($2))", "and($3, $4)"), wide("and", 0, 13, "$3", "isnull($2)", "and($3, $4)")},
		// an Arg that goes makes room
		{wide("and", 0, 14, "true", "and($3, $4)"), wide("and", 0, 14, "$3", "$4")},
	} {
		if got := shown(logic.Simplify(parse(c.expr), cols())); got != c.want {
			t.Errorf("%s: %s, not %s", c.expr, got, c.want)
		}
	}
}

// rules are the steps with a fixed number of Args: ?a and ?b are any expressions, !a is one that may not be null.
const rules = `
3 not(not(?a)) -> ?a
3 not(eq(?a, ?b)) -> ne(?a, ?b)
3 not(ne(?a, ?b)) -> eq(?a, ?b)
3 not(lt(?a, ?b)) -> ge(?a, ?b)
3 not(le(?a, ?b)) -> gt(?a, ?b)
3 not(gt(?a, ?b)) -> le(?a, ?b)
3 not(ge(?a, ?b)) -> lt(?a, ?b)
5 add(?a, 0) -> ?a
5 add(0, ?a) -> ?a
5 sub(?a, 0) -> ?a
5 mul(?a, 1) -> ?a
5 mul(1, ?a) -> ?a
5 div(?a, 1) -> ?a
5 concat(?a, '') -> ?a
5 concat('', ?a) -> ?a
5 mul(!a, 0) -> 0
5 mul(0, !a) -> 0
6 eq(#a, ?b) -> eq(?b, ?a)
6 ne(#a, ?b) -> ne(?b, ?a)
6 lt(#a, ?b) -> gt(?b, ?a)
6 le(#a, ?b) -> ge(?b, ?a)
6 gt(#a, ?b) -> lt(?b, ?a)
6 ge(#a, ?b) -> le(?b, ?a)
7 eq(?a, true) -> ?a
7 eq(?a, false) -> not(?a)
8 eq(!a, !a) -> true
8 ne(!a, !a) -> false
8 lt(!a, !a) -> false
8 le(!a, !a) -> true
8 gt(!a, !a) -> false
8 ge(!a, !a) -> true
9 isnull(!a) -> false
9 istrue(!a) -> ?a
10 same(?a, ?a) -> true
10 same(null, ?a) -> isnull(?a)
10 same(?a, null) -> isnull(?a)
10 same(!a, !b) -> eq(?a, ?b)
`

// rule is a pattern with what becomes of it, as strings.
type rule struct{ from, to string }

// ruleList are the rules by their step, and the word of the pattern.
var ruleList = func() map[string][]rule {
	out := map[string][]rule{}
	for _, s := range strings.Split(strings.TrimSpace(rules), "\n") {
		step, rest, _ := strings.Cut(s, " ")
		from, to, _ := strings.Cut(rest, " -> ")
		word, _ := parts(from)
		out[step+" "+word] = append(out[step+" "+word], rule{from, to})
	}
	return out
}()

// parts are a word, and what is in the brackets behind it.
func parts(s string) (string, []string) {
	at := strings.IndexByte(s, '(')
	if at < 0 {
		return s, nil
	}
	var out []string
	depth, from := 0, at+1
	for i := at; i < len(s); i++ {
		switch {
		case s[i] == '(':
			depth++
		case s[i] == ')':
			depth--
		}
		if s[i] == ',' && depth == 1 || depth == 0 {
			out = append(out, strings.TrimSpace(s[from:i]))
			from = i + 1
		}
	}
	return s[:at], out
}

// words are the operations with Args, from OAdd on.
var words = strings.Fields("add sub mul div mod neg concat length eq ne lt le gt ge same and or not isnull istrue case coalesce")

// wordOf is the word of an operation, or the whole string where there is none.
func wordOf(e api.Expr) string {
	if len(e.Args) > 0 {
		return words[e.Op-api.OAdd]
	}
	return shown(e, api.OK)
}

// matches tells whether e is as a pattern says; it keeps what its letters are.
func matches(e api.Expr, pattern string, cols []api.Col, is map[byte]api.Expr) bool {
	if strings.IndexByte("?!#", pattern[0]) >= 0 {
		c, _ := scalar.Kind(e, cols)
		if pattern[0] == '!' && c.Null || pattern[0] == '#' && e.Op != api.OLit {
			return false
		}
		old, there := is[pattern[1]]
		is[pattern[1]] = e
		return !there || reflect.DeepEqual(old, e)
	}
	word, args := parts(pattern)
	if word == "null" {
		return e.Op == api.OLit && e.Lit == null
	}
	if wordOf(e) != word || len(args) != len(e.Args) {
		return false
	}
	for i, a := range args {
		if !matches(e.Args[i], a, cols, is) {
			return false
		}
	}
	return true
}

// made is what a pattern says of what its letters are.
func made(pattern string, is map[byte]api.Expr) api.Expr {
	if pattern[0] == '?' {
		return is[pattern[1]]
	}
	word, args := parts(pattern)
	if args == nil {
		return parse(pattern)
	}
	var l []string
	for range args {
		l = append(l, "$0")
	}
	out := parse(word + "(" + strings.Join(l, ", ") + ")")
	for i, a := range args {
		out.Args[i] = made(a, is)
	}
	return out
}

// oracle simplifies in another way: as long as there is a node with something to do, of the first such one, in the order in
// which nodes end, it makes what its first step gives.
func oracle(e api.Expr, cols []api.Col) api.Expr {
	for {
		next, ok := once(e, cols)
		if !ok {
			return e
		}
		e = next
	}
}

func once(e api.Expr, cols []api.Col) (api.Expr, bool) {
	for i, a := range e.Args {
		if next, ok := once(a, cols); ok {
			e.Args = slices.Clone(e.Args)
			e.Args[i] = next
			return e, true
		}
	}
	if len(e.Args) == 0 {
		return e, false
	}
	for step := 1; step <= 12; step++ {
		if next, ok := byHand(step, e, cols); ok {
			return next, true
		}
		if step == 6 && e.Args[len(e.Args)-1].Op == api.OLit {
			continue
		}
		for _, r := range ruleList[strconv.Itoa(step)+" "+wordOf(e)] {
			is := map[byte]api.Expr{}
			if matches(e, r.from, cols, is) {
				return made(r.to, is), true
			}
		}
	}
	return e, false
}

// byHand does the steps with any number of Args.
func byHand(step int, e api.Expr, cols []api.Col) (api.Expr, bool) {
	c, f := scalar.Kind(e, cols)
	if f != api.OK {
		panic(f)
	}
	isNull := func(x api.Expr) bool { return x.Op == api.OLit && x.Lit == null }
	isLit := func(x api.Expr) bool { return x.Op == api.OLit }
	switch step {
	case 1:
		if len(e.Args) == 0 || slices.ContainsFunc(e.Args, func(x api.Expr) bool { return !isLit(x) }) {
			return e, false
		}
		v, _ := scalar.Eval(e, []api.Col{{Kind: api.Text}}, []api.Value{text("")})
		return api.Expr{Op: api.OLit, Kind: c.Kind, Lit: v}, true
	case 2:
		return gathered(e)
	case 3:
		if e.Op != api.ONot || e.Args[0].Op != api.OAnd && e.Args[0].Op != api.OOr {
			return e, false
		}
		out := node(api.OAnd + api.OOr - e.Args[0].Op)
		for _, a := range e.Args[0].Args {
			out.Args = append(out.Args, node(api.ONot, a))
		}
		return out, true
	case 4:
		return nullOf(c.Kind), e.Op >= api.OAdd && e.Op <= api.OGe && slices.ContainsFunc(e.Args, isNull)
	case 11:
		return cased(e)
	case 12:
		return coalesced(e, cols)
	}
	return e, false
}

// left is a node with the Args that are left, or the only one.
func left(op api.Op, args []api.Expr) (api.Expr, bool) {
	if len(args) == 1 {
		return args[0], true
	}
	return node(op, args...), true
}

func gathered(e api.Expr) (api.Expr, bool) {
	if e.Op != api.OAnd && e.Op != api.OOr {
		return e, false
	}
	for i, a := range e.Args {
		if l := slices.Concat(e.Args[:i], a.Args, e.Args[i+1:]); a.Op == e.Op && len(l) <= 16 {
			return node(e.Op, l...), true
		}
	}
	nothing, all := lit(yes), lit(no)
	if e.Op == api.OOr {
		nothing, all = all, nothing
	}
	var kept []api.Expr
	for i, a := range e.Args {
		for _, b := range append(kept, nothing) {
			if reflect.DeepEqual(a, b) {
				return left(e.Op, slices.Concat(e.Args[:i], e.Args[i+1:]))
			}
		}
		kept = append(kept, a)
	}
	for _, a := range e.Args {
		if reflect.DeepEqual(a, all) {
			return all, true
		}
	}
	return e, false
}

func cased(e api.Expr) (api.Expr, bool) {
	if e.Op != api.OCase {
		return e, false
	}
	last := e.Args[len(e.Args)-1]
	allSame := true
	for i := 0; i+1 < len(e.Args); i += 2 {
		if e.Args[i].Op == api.OLit && e.Args[i].Lit == yes {
			return left(e.Op, slices.Concat(e.Args[:i], e.Args[i+1:i+2]))
		}
		if e.Args[i].Op == api.OLit {
			return left(e.Op, slices.Concat(e.Args[:i], e.Args[i+2:]))
		}
		allSame = allSame && reflect.DeepEqual(e.Args[i+1], last)
	}
	return last, allSame
}

func coalesced(e api.Expr, cols []api.Col) (api.Expr, bool) {
	if e.Op != api.OCoalesce {
		return e, false
	}
	for i, a := range e.Args {
		if a.Op == api.OLit && a.Lit == null {
			return left(e.Op, slices.Concat(e.Args[:i], e.Args[i+1:]))
		}
	}
	for i, a := range e.Args[:len(e.Args)-1] {
		if c, _ := scalar.Kind(a, cols); !c.Null {
			return left(e.Op, e.Args[:i+1])
		}
	}
	return e, false
}

// P4.1, P4.5, P4.6: Simplify is as the steps say; it keeps the value, and is the same again.
func TestSimplifyRandom(t *testing.T) {
	t.Parallel()
	r := rand.New(rand.NewPCG(1, 4))
	changed := 0
	for i := range 3000 {
		e := anExpr(r, cols(), api.Int+api.Kind(i%3), 1+i%4)
		got, f := logic.Simplify(e, cols())
		if want := oracle(e, cols()); f != api.OK || shown(got, api.OK) != shown(want, api.OK) {
			t.Fatalf("%s: %s, not %s (%v)", shown(e, api.OK), shown(got, api.OK), shown(want, api.OK), f)
		}
		if again, f := logic.Simplify(got, cols()); f != api.OK || !reflect.DeepEqual(again, got) {
			t.Fatalf("%s: %s, and again %s", shown(e, api.OK), shown(got, api.OK), shown(again, f))
		}
		if !reflect.DeepEqual(got, e) {
			changed++
		}
		for range 20 {
			row := aRow(r, cols())
			a, _ := scalar.Eval(e, cols(), row)
			b, f := scalar.Eval(got, cols(), row)
			if a != b || f != api.OK {
				t.Fatalf("%s on %v: %v, simplified %v (%v)", shown(e, api.OK), row, a, b, f)
			}
		}
	}
	if changed < 1500 {
		t.Errorf("only %d were changed", changed)
	}
}

// P4.1: as a condition.
func TestConditions(t *testing.T) {
	for _, c := range []struct{ expr, want string }{
		{"$3", "$3"}, {"true", "true"}, {"false", "false"}, {"null:bool", "false"}, {"eq($0, null:int)", "false"},
		{"istrue($3)", "$3"}, {"istrue(istrue(gt($1, 2)))", "gt($1, 2)"}, {"istrue(and($3, istrue(eq($1, 1))))", "and($3, eq($1, 1))"},
		{"coalesce($3, false)", "$3"}, {"coalesce($3, null:bool, false)", "$3"}, {"coalesce($3, true)", "coalesce($3, true)"},
		{"coalesce($3, gt($1, 2), false)", "coalesce($3, gt($1, 2), false)"}, {"coalesce(istrue($3), false)", "$3"},
		{"coalesce(coalesce($3, gt($1, 1)), false)", "coalesce($3, gt($1, 1))"}, {"coalesce(gt($1, 2), $3)", "coalesce(gt($1, 2), $3)"},
		{"or($3, null:bool)", "$3"}, {"and($3, null:bool)", "false"}, {"or(gt($1, 2), $3, null:bool)", "or(gt($1, 2), $3)"},
		{"and($3, istrue($3))", "$3"}, {"or($3, coalesce($3, false), istrue($3))", "$3"},
		{"or(and(istrue($3), null:bool), $4)", "$4"}, {"and($3, or(istrue($4), null:bool, coalesce(gt($1, 1), false)))", "and($3, or($4, gt($1, 1)))"},
		{"or($4, and($3, or(null:bool, istrue(lt($1, 0)))))", "or($4, and($3, lt($1, 0)))"},
		{"or($4, and($3, istrue(and(isnull($1), gt($1, 0)))))", "or($4, and($3, isnull($1), gt($1, 0)))"},
		{"not(istrue($3))", "not(istrue($3))"}, {"not(coalesce($3, false))", "not(coalesce($3, false))"}, {"not(null:bool)", "false"},
		{"not(and($3, null:bool))", "not($3)"}, {"not(or($3, null:bool))", "false"}, {"case(istrue($3), $4, null:bool)", "case(istrue($3), $4, null:bool)"},
		{"isnull(and($3, null:bool))", "isnull(and($3, null:bool))"}, {"and(istrue($3), not(not($4)))", "and($3, $4)"},
		{"eq(coalesce($3, false), true)", "$3"}, {"same($3, true)", "same($3, true)"}, {"same($3, null:bool)", "isnull($3)"},
	} {
		if got := shown(logic.Condition(parse(c.expr), cols())); got != c.want {
			t.Errorf("%s: %s, not %s", c.expr, got, c.want)
		}
	}
}

// conditionBy is e as a condition, by the definition.
func conditionBy(e api.Expr, cols []api.Col) api.Expr {
	e = oracle(e, cols)
	falseBehind := e.Op == api.OCoalesce && len(e.Args) == 2 && reflect.DeepEqual(e.Args[1], lit(no))
	if e.Op == api.OLit && e.Lit == null {
		return lit(no)
	}
	if e.Op == api.OIsTrue || falseBehind {
		return conditionBy(e.Args[0], cols)
	}
	if e.Op != api.OAnd && e.Op != api.OOr {
		return e
	}
	for {
		next := node(e.Op)
		for _, a := range e.Args {
			next.Args = append(next.Args, conditionBy(a, cols))
		}
		if reflect.DeepEqual(next, e) {
			return e
		}
		if e = oracle(next, cols); e.Op != api.OAnd && e.Op != api.OOr {
			return e
		}
	}
}

// P4.1, P4.5, P4.6: Condition is as defined; it keeps where e is true, and is the same again.
func TestConditionRandom(t *testing.T) {
	t.Parallel()
	r := rand.New(rand.NewPCG(2, 4))
	for i := range 3000 {
		e := anExpr(r, cols(), api.Bool, 1+i%4)
		if i%3 == 0 {
			e = node(api.OOr-api.Op(i%2), e, node(api.OIsTrue, anExpr(r, cols(), api.Bool, 2)), node(api.OCoalesce, anExpr(r, cols(), api.Bool, 2), lit(no)))
		}
		got, f := logic.Condition(e, cols())
		if want := conditionBy(e, cols()); f != api.OK || shown(got, api.OK) != shown(want, api.OK) {
			t.Fatalf("%s: %s, not %s (%v)", shown(e, api.OK), shown(got, api.OK), shown(want, api.OK), f)
		}
		if again, f := logic.Condition(got, cols()); f != api.OK || !reflect.DeepEqual(again, got) {
			t.Fatalf("%s: %s, and again %s", shown(e, api.OK), shown(got, api.OK), shown(again, f))
		}
		for range 20 {
			row := aRow(r, cols())
			a, _ := scalar.Eval(e, cols(), row)
			b, _ := scalar.Eval(got, cols(), row)
			if (a == yes) != (b == yes) {
				t.Fatalf("%s on %v: %v, as a condition %v", shown(e, api.OK), row, a, b)
			}
		}
	}
}
