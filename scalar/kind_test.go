package scalar_test

import (
	"math"
	"math/rand/v2"
	"slices"
	"strings"
	"testing"

	"tactician/api"
	"tactician/scalar"
)

// kindBy is what DOC.md says of the kind of a node whose Args have the kinds args; false if they do not fit.
func kindBy(op api.Op, args []api.Col) (api.Col, bool) {
	maybe := func(l []api.Col) bool { return slices.ContainsFunc(l, func(c api.Col) bool { return c.Null }) }
	are := func(k api.Kind) bool { return !slices.ContainsFunc(args, func(c api.Col) bool { return c.Kind != k }) }
	switch op {
	case api.OAdd, api.OSub, api.OMul, api.ONeg:
		return api.Col{Kind: api.Int, Null: maybe(args)}, are(api.Int)
	case api.ODiv, api.OMod:
		return api.Col{Kind: api.Int, Null: true}, are(api.Int)
	case api.OConcat:
		return api.Col{Kind: api.Text, Null: maybe(args)}, are(api.Text)
	case api.OLength:
		return api.Col{Kind: api.Int, Null: maybe(args)}, are(api.Text)
	case api.OEq, api.ONe, api.OLt, api.OLe, api.OGt, api.OGe:
		return api.Col{Kind: api.Bool, Null: maybe(args)}, are(args[0].Kind)
	case api.OSame:
		return api.Col{Kind: api.Bool}, are(args[0].Kind)
	case api.OAnd, api.OOr, api.ONot:
		return api.Col{Kind: api.Bool, Null: maybe(args)}, are(api.Bool)
	case api.OIsNull:
		return api.Col{Kind: api.Bool}, true
	case api.OIsTrue:
		return api.Col{Kind: api.Bool}, are(api.Bool)
	case api.OCoalesce:
		sure := slices.ContainsFunc(args, func(c api.Col) bool { return !c.Null })
		return api.Col{Kind: args[0].Kind, Null: !sure}, are(args[0].Kind)
	}
	last := len(args) - 1
	out := args[last]
	for i := 0; i < last; i += 2 {
		if args[i].Kind != api.Bool || args[i+1].Kind != out.Kind {
			return api.Col{}, false
		}
		out.Null = out.Null || args[i+1].Null
	}
	return out, true
}

// places calls each for all lists of n numbers below most.
func places(n, most int, each func(l []int)) {
	l := make([]int, n)
	for {
		each(l)
		at := 0
		for at < n && l[at] == most-1 {
			l[at] = 0
			at++
		}
		if at == n {
			return
		}
		l[at]++
	}
}

func TestKind(t *testing.T) {
	cols := sixCols()
	for op := api.OAdd; op <= api.OCoalesce; op++ {
		for _, n := range counts(op) {
			if n > 5 {
				break
			}
			places(n, len(cols), func(at []int) {
				var args []api.Expr
				var kinds []api.Col
				for _, i := range at {
					args = append(args, col(i))
					kinds = append(kinds, cols[i])
				}
				want, fits := kindBy(op, kinds)
				wantError := api.OK
				if !fits {
					want, wantError = api.Col{}, api.ErrKinds
				}
				if c, f := scalar.Kind(node(op, args...), cols); c != want || f != wantError {
					t.Fatalf("%s: %v, %v, not %v, %v", shown(node(op, args...)), c, f, want, wantError)
				}
			})
		}
	}
}

func TestKindOfManyArgs(t *testing.T) {
	cols := sixCols()
	for _, op := range []api.Op{api.OAnd, api.OOr, api.OCoalesce} {
		for at := range api.MaxCols {
			args := slices.Repeat([]api.Expr{col(2)}, api.MaxCols)
			args[at] = col(3)
			if c, f := scalar.Kind(node(op, args...), cols); c != (api.Col{Kind: api.Bool, Null: op != api.OCoalesce}) || f != api.OK {
				t.Errorf("%s: %v, %v", shown(node(op, args...)), c, f)
			}
			args[at] = col(4)
			if c, f := scalar.Kind(node(op, args...), cols); c != (api.Col{}) || f != api.ErrKinds {
				t.Errorf("%s: %v, %v", shown(node(op, args...)), c, f)
			}
		}
	}
	for at := range api.MaxCols - 1 {
		args := slices.Repeat([]api.Expr{col(2)}, api.MaxCols-1)
		args[at] = col(3)
		isValue := at%2 == 1 || at == api.MaxCols-2
		if c, f := scalar.Kind(node(api.OCase, args...), cols); c != (api.Col{Kind: api.Bool, Null: isValue}) || f != api.OK {
			t.Errorf("%s: %v, %v", shown(node(api.OCase, args...)), c, f)
		}
		args[at] = col(0)
		if c, f := scalar.Kind(node(api.OCase, args...), cols); c != (api.Col{}) || f != api.ErrKinds {
			t.Errorf("%s: %v, %v", shown(node(api.OCase, args...)), c, f)
		}
	}
}

func TestKindOfLeaves(t *testing.T) {
	for _, k := range []api.Kind{api.Int, api.Bool, api.Text} {
		for _, v := range fitting(k) {
			if c, f := scalar.Kind(lit(v), sixCols()[:1]); c != (api.Col{Kind: k}) || f != api.OK {
				t.Errorf("%v: %v, %v", v, c, f)
			}
		}
		if c, f := scalar.Kind(nullOf(k), sixCols()[:1]); c != (api.Col{Kind: k, Null: true}) || f != api.OK {
			t.Errorf("null of %v: %v, %v", k, c, f)
		}
	}
	for i, want := range sixCols() {
		if c, f := scalar.Kind(col(i), sixCols()); c != want || f != api.OK {
			t.Errorf("column %d: %v, %v", i, c, f)
		}
	}
}

func TestKindExamples(t *testing.T) {
	for s, want := range map[string]api.Col{
		"add(add(1, 2), $0)":                        {Kind: api.Int},
		"add(add(1, null:int), $0)":                 {Kind: api.Int, Null: true},
		"isnull(add(1, null:int))":                  {Kind: api.Bool},
		"coalesce(div(1, 2), 3)":                    {Kind: api.Int},
		"coalesce(div(1, 2), mod(1, 2))":            {Kind: api.Int, Null: true},
		"case(null:bool, 1, 2)":                     {Kind: api.Int},
		"case(true, 1, null:bool, null:int, 2)":     {Kind: api.Int, Null: true},
		"length(concat('a', coalesce($5, 'b')))":    {Kind: api.Int},
		"length(concat('a', $5))":                   {Kind: api.Int, Null: true},
		"and(istrue($3), isnull($5), same($5, $4))": {Kind: api.Bool},
		"eq(div(1, 1), 1)":                          {Kind: api.Bool, Null: true},
		"isnull(div(1, 1))":                         {Kind: api.Bool},
	} {
		if c, f := scalar.Kind(parse(s), sixCols()); c != want || f != api.OK {
			t.Errorf("%s: %v, %v, not %v", s, c, f, want)
		}
	}
	for _, s := range []string{
		"$6", "$9223372036854775807", "isnull($6)", "coalesce(1, $6)", "case(true, 1, false, $6, 2)",
		"^1.0", "isnull(^1.0)", "and($2, same(^1.0, ^1.0))", "case(false, ^1.0, 1)", "coalesce(1, ^1.0)",
		"isnull(add(1, 'a'))", "and(true, isnull(eq(1, 'a')))", "case(true, 1, eq(1, true), 2, 3)", "or(true, not(1))", "not(null:int)",
		"istrue(1)", "istrue(null:text)", "neg(null:text)", "add(null:bool, 1)", "concat('a', 1)", "length(1)", "eq(null:int, null:text)",
	} {
		if c, f := scalar.Kind(parse(s), sixCols()); c != (api.Col{}) || f != api.ErrKinds {
			t.Errorf("%s: %v, %v, not ErrKinds", s, c, f)
		}
		row := []api.Value{number(1), null, yes, null, text("a"), null}
		if v, f := scalar.Eval(parse(s), sixCols(), row); v != null || f != api.ErrKinds {
			t.Errorf("Eval of %s: %v, %v, not ErrKinds", s, v, f)
		}
	}
}

// noColumns are columns that are none.
func noColumns() [][]api.Col {
	return [][]api.Col{
		nil, {}, {{}}, {{Kind: 4}}, {{Kind: -1}}, {{Kind: api.Int}, {Null: true}}, {{Kind: math.MaxInt}},
		slices.Repeat([]api.Col{{Kind: api.Int}}, api.MaxCols+1),
	}
}

func TestOrderOfErrors(t *testing.T) {
	right, notOne, notFitting := col(0), api.Expr{Op: 99}, parse("add($0, 'a')")
	for _, cols := range noColumns() {
		for _, e := range []api.Expr{right, notOne, notFitting, col(20), lit(yes)} {
			if c, f := scalar.Kind(e, cols); c != (api.Col{}) || f != api.ErrRows {
				t.Errorf("Kind of Op %d on %v: %v, %v, not ErrRows", e.Op, cols, c, f)
			}
			for _, row := range [][]api.Value{nil, {number(1)}, {none}} {
				if v, f := scalar.Eval(e, cols, row); v != null || f != api.ErrRows {
					t.Errorf("Eval of Op %d on %v: %v, %v, not ErrRows", e.Op, cols, v, f)
				}
			}
		}
	}
	cols := []api.Col{{Kind: api.Int}, {Kind: api.Text, Null: true}}
	for name, row := range map[string][]api.Value{
		"none":                    nil,
		"empty":                   {},
		"short":                   {number(1)},
		"long":                    {number(1), null, null},
		"very long":               slices.Repeat([]api.Value{number(1)}, 1000),
		"a null":                  {null, null},
		"another kind":            {number(1), number(1)},
		"no value":                {number(1), none},
		"no value of the kind":    {{Kind: api.Int, Text: "a"}, null},
		"too long a text":         {number(1), text(strings.Repeat("a", api.MaxText+1))},
		"a null that is no value": {number(1), {Int: 1}},
	} {
		if v, f := scalar.Eval(right, cols, row); v != null || f != api.ErrRows {
			t.Errorf("Eval on a row, %s: %v, %v, not ErrRows", name, v, f)
		}
		if v, f := scalar.Eval(lit(yes), cols, row); v != null || f != api.ErrRows {
			t.Errorf("Eval of a literal on a row, %s: %v, %v, not ErrRows", name, v, f)
		}
		if v, f := scalar.Eval(notFitting, cols, row); v != null || f != api.ErrKinds {
			t.Errorf("Eval of kinds that do not fit, on a row, %s: %v, %v, not ErrKinds", name, v, f)
		}
		if v, f := scalar.Eval(notOne, cols, row); v != null || f != api.ErrExpr {
			t.Errorf("Eval of no expression, on a row, %s: %v, %v, not ErrExpr", name, v, f)
		}
	}
}

func TestMostColumns(t *testing.T) {
	cols := slices.Repeat([]api.Col{{Kind: api.Int}}, api.MaxCols)
	row := slices.Repeat([]api.Value{number(0)}, api.MaxCols)
	row[api.MaxCols-1] = number(5)
	if c, f := scalar.Kind(col(api.MaxCols-1), cols); c != cols[0] || f != api.OK {
		t.Errorf("Kind: %v, %v", c, f)
	}
	if v, f := scalar.Eval(col(api.MaxCols-1), cols, row); v != number(5) || f != api.OK {
		t.Errorf("Eval: %v, %v", v, f)
	}
}

// P3.5

func TestValuesFitKinds(t *testing.T) {
	cols := sixCols()
	seenNull, seenOther := 0, 0
	some(t, 6000, func(r *rand.Rand, e api.Expr) {
		c, f := scalar.Kind(e, cols)
		if f != api.OK {
			t.Fatalf("Kind: %v", f)
		}
		for range 4 {
			v, g := scalar.Eval(e, cols, rowOf(r, cols))
			if g != api.OK || v.Kind != c.Kind && (v != null || !c.Null) || scalar.Check(lit(v)) != api.OK && v != null {
				t.Fatalf("%v, %v, does not fit %v", v, g, c)
			}
			if v == null {
				seenNull++
			} else {
				seenOther++
			}
		}
	})
	if seenNull < 1000 || seenOther < 1000 {
		t.Errorf("the expressions are too much alike: %d nulls, %d others", seenNull, seenOther)
	}
}
