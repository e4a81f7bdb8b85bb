package scalar_test

import (
	"math/big"
	"math/rand/v2"
	"slices"
	"strings"
	"testing"

	"tactician/api"
	"tactician/scalar"
	"tactician/value"
)

// wrapped is the number n, wrapped to 64 bits.
func wrapped(n *big.Int) api.Value {
	low := new(big.Int).And(n, new(big.Int).SetUint64(1<<64-1)) // of a negative number, too, as two's complement
	return number(int64(low.Uint64()))
}

// valueBy is what DOC.md says of the value of a node whose Args have the values args.
func valueBy(op api.Op, args []api.Value) api.Value {
	if (op <= api.OGe || op == api.ONot) && slices.Contains(args, null) {
		return null
	}
	truth := func(is bool) api.Value {
		if is {
			return yes
		}
		return no
	}
	var a, b api.Value
	a = args[0]
	if len(args) > 1 {
		b = args[1]
	}
	x, y := big.NewInt(a.Int), big.NewInt(b.Int)
	order, _ := value.Compare(a, b)
	switch op {
	case api.OAdd:
		return wrapped(x.Add(x, y))
	case api.OSub:
		return wrapped(x.Sub(x, y))
	case api.OMul:
		return wrapped(x.Mul(x, y))
	case api.ODiv, api.OMod:
		if b.Int == 0 {
			return null
		}
		quotient, rest := new(big.Int).QuoRem(x, y, new(big.Int)) // cut towards 0
		if op == api.ODiv {
			return wrapped(quotient)
		}
		return wrapped(rest)
	case api.ONeg:
		return wrapped(x.Neg(x))
	case api.OConcat:
		s := a.Text + b.Text
		if len(s) > 200 {
			s = s[:200]
		}
		return text(s)
	case api.OLength:
		return number(int64(len(a.Text)))
	case api.OEq, api.OSame:
		return truth(order == 0)
	case api.ONe:
		return truth(order != 0)
	case api.OLt:
		return truth(order == -1)
	case api.OLe:
		return truth(order != 1)
	case api.OGt:
		return truth(order == 1)
	case api.OGe:
		return truth(order != -1)
	case api.OAnd, api.OOr:
		for _, v := range []api.Value{truth(op == api.OOr), null} {
			if slices.Contains(args, v) {
				return v
			}
		}
		return truth(op == api.OAnd)
	case api.ONot:
		return truth(a == no)
	case api.OIsNull:
		return truth(a == null)
	case api.OIsTrue:
		return truth(a == yes)
	case api.OCoalesce:
		for _, v := range args {
			if v != null {
				return v
			}
		}
		return null
	}
	for len(args) > 1 {
		if args[0] == yes {
			return args[1]
		}
		args = args[2:]
	}
	return args[0]
}

// expectValue evaluates op on literals and on columns.
func expectValue(t *testing.T, op api.Op, kinds []api.Kind, args []api.Value) {
	t.Helper()
	var lits, cols []api.Expr
	var in []api.Col
	for i, v := range args {
		lits = append(lits, api.Expr{Op: api.OLit, Kind: kinds[i], Lit: v})
		cols = append(cols, col(i))
		in = append(in, api.Col{Kind: kinds[i], Null: true})
	}
	want := valueBy(op, args)
	if v, f := scalar.Eval(node(op, lits...), in, args); v != want || f != api.OK {
		t.Fatalf("%s: %v, %v, not %v", shown(node(op, lits...)), v, f, want)
	}
	if v, f := scalar.Eval(node(op, cols...), in, args); v != want || f != api.OK {
		t.Fatalf("%s on %v: %v, %v, not %v", shown(node(op, cols...)), args, v, f, want)
	}
}

// All operations, on all lists of values, as far as they are not too many.
func TestEval(t *testing.T) {
	for op := api.OAdd; op <= api.OCoalesce; op++ {
		tried := 0
		for _, n := range counts(op) {
			if n > 5 {
				break
			}
			places(n, 3, func(of []int) {
				var kinds []api.Kind
				var cols []api.Col
				for _, k := range of {
					kinds = append(kinds, api.Int+api.Kind(k))
					cols = append(cols, api.Col{Kind: api.Int + api.Kind(k), Null: true})
				}
				if _, fits := kindBy(op, cols); !fits {
					return
				}
				most := 14
				if n > 2 {
					most = 3
				}
				places(n, most, func(at []int) {
					var args []api.Value
					for i, k := range kinds {
						l := append([]api.Value{null}, fitting(k)...)
						if at[i] >= len(l) {
							return
						}
						args = append(args, l[at[i]])
					}
					tried++
					expectValue(t, op, kinds, args)
				})
			})
		}
		if tried < 3 {
			t.Errorf("%s: only %d lists", words[op-api.OAdd], tried)
		}
	}
}

func TestEvalManyArgs(t *testing.T) {
	bools := slices.Repeat([]api.Kind{api.Bool}, api.MaxCols)
	for at := range api.MaxCols {
		for _, v := range []api.Value{yes, no, null} {
			for _, other := range []api.Value{yes, no, null} {
				args := slices.Repeat([]api.Value{other}, api.MaxCols)
				args[at] = v
				expectValue(t, api.OAnd, bools, args)
				expectValue(t, api.OOr, bools, args)
				expectValue(t, api.OCoalesce, bools, args)
				expectValue(t, api.OCase, bools[1:], args[1:])
			}
		}
	}
}

func TestEvalExamples(t *testing.T) {
	cols := []api.Col{{Kind: api.Int}, {Kind: api.Int, Null: true}}
	row := []api.Value{number(5), null}
	for s, want := range map[string]string{
		"and(gt($0, 3), not(isnull($1)))":   "false",
		"eq($1, null:int)":                  "null",
		"same($1, null:int)":                "true",
		"same($0, $1)":                      "false",
		"div(7, 0)":                         "null",
		"mod(7, 0)":                         "null",
		"div(-7, 2)":                        "-3",
		"mod(-7, 2)":                        "-1",
		"div(7, -2)":                        "-3",
		"mod(7, -2)":                        "1",
		"div(-9223372036854775808, -1)":     "-9223372036854775808",
		"mod(-9223372036854775808, -1)":     "0",
		"neg(-9223372036854775808)":         "-9223372036854775808",
		"add(9223372036854775807, 1)":       "-9223372036854775808",
		"sub(-9223372036854775808, 1)":      "9223372036854775807",
		"mul(4294967296, 4294967296)":       "0",
		"case(lt($0, 0), 'neg', 'pos')":     "'pos'",
		"case($1, 1, 2)":                    "error",
		"case(null:bool, 1, true, 2, 3)":    "2",
		"case(true, 1, true, 2, 3)":         "1",
		"case(true, null:int, 3)":           "null",
		"coalesce($1, null:int)":            "null",
		"coalesce($1, $0, 7)":               "5",
		"length('')":                        "0",
		"length('''')":                      "1",
		"concat('a', '')":                   "'a'",
		"concat('it''', 's')":               "'it''s'",
		"lt(false, true)":                   "true",
		"lt('B', 'a')":                      "true",
		"lt('a', 'aa')":                     "true",
		"lt(10, 9)":                         "false",
		"istrue(null:bool)":                 "false",
		"isnull(null:text)":                 "true",
		"and(null:bool, false)":             "false",
		"or(null:bool, true)":               "true",
		"not(null:bool)":                    "null",
		"isnull(div(1, 0))":                 "true",
		"add(mul($0, $0), neg(sub(1, $0)))": "29",
	} {
		v, f := scalar.Eval(parse(s), cols, row)
		got, _ := value.String(v)
		if f != api.OK {
			got = "error"
		}
		if got != want {
			t.Errorf("%s: %s, %v, not %s", s, got, f, want)
		}
	}
	if v, f := scalar.Eval(parse("case(lt($0, 0), 'neg', 'pos')"), cols[:1], []api.Value{number(-1)}); v != text("neg") || f != api.OK {
		t.Errorf("-1: %v, %v", v, f)
	}
}

func TestConcat(t *testing.T) {
	for n := 0; n <= api.MaxText; n += 40 {
		for m := range api.MaxText + 1 {
			a, b := strings.Repeat("a", n), strings.Repeat("b", m)
			e := node(api.OConcat, lit(text(a)), lit(text(b)))
			want := (a + b)[:min(n+m, api.MaxText)]
			if v, f := scalar.Eval(e, sixCols()[4:5], []api.Value{text("")}); v != text(want) || f != api.OK {
				t.Fatalf("%d and %d bytes: %d, %v", n, m, len(v.Text), f)
			}
		}
	}
}

// The value of a node is that of its operation for the values of its Args.
func TestEvalOfParts(t *testing.T) {
	cols := sixCols()
	some(t, 5000, func(r *rand.Rand, e api.Expr) {
		row := rowOf(r, cols)
		got, f := scalar.Eval(e, cols, row)
		if f != api.OK {
			t.Fatalf("%v", f)
		}
		want := e.Lit
		if e.Op == api.OCol {
			want = row[e.N]
		}
		if len(e.Args) > 0 {
			var args []api.Value
			for _, a := range e.Args {
				v, _ := scalar.Eval(a, cols, row)
				args = append(args, v)
			}
			want = valueBy(e.Op, args)
		}
		if got != want {
			t.Errorf("%v, not %v", got, want)
		}
	})
}

// The largest expressions.
func TestEvalLarge(t *testing.T) {
	cols := []api.Col{{Kind: api.Int, Null: true}}
	sum := doubled(8)
	if v, f := scalar.Eval(sum, cols, []api.Value{number(3)}); v != number(3*128) || f != api.OK {
		t.Errorf("a sum: %v, %v", v, f)
	}
	if v, f := scalar.Eval(chain(api.MaxDepth, col(0)), cols, []api.Value{null}); v != no || f != api.OK {
		t.Errorf("a deep one: %v, %v", v, f)
	}
	cols[0].Kind = api.Bool
	if v, f := scalar.Eval(wide(api.MaxNodes, col(0)), cols, []api.Value{no}); v != no || f != api.OK {
		t.Errorf("a wide one: %v, %v", v, f)
	}
}
