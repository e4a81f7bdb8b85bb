package algebra_test

import (
	"math"
	"strings"
	"testing"

	"tactician/algebra"
	"tactician/api"
)

// P6.1

// outerOf compares a column of an outer row with a number.
func outerOf(n, m int) api.Expr {
	return node(api.OEq, api.Expr{Op: api.OOuter, N: n, M: m}, ex("1"))
}

func call(fn api.Fn, col int) api.Call { return api.Call{Fn: fn, Col: col} }

func distinct(fn api.Fn, col int) api.Call { return api.Call{Fn: fn, Col: col, Distinct: true} }

func TestCols(t *testing.T) {
	t1, u, v := scan("t"), scan("u"), scan("v")
	yes := ex("true")
	for _, c := range []struct {
		want string
		rel  api.Rel
	}{
		{"int int?", t1},
		{"text bool?", u},
		{"bool text?", v},
		{"int", values("int", "")},
		{"int? text bool", values("int? text bool", "(null, 'x', true)\n(1, '', false)\n")},
		{"int int?", filter(ex("gt($0, 1)"), t1)},
		{"int int?", filter(ex("null:bool"), t1)},
		{"text bool?", filter(ex("$1"), u)},
		{"int? int bool text int? bool", mapped(t1, exs("$1", "$0", "isnull($1)", "'x'", "null:int", "eq($0, 1)")...)},
		{"int? int? int int? bool?", mapped(t1, exs("div($0, 2)", "mod($0, 2)", "coalesce($1, $0)", "coalesce($1, $1)", "lt($0, $1)")...)},
		{"int int? text bool?", join(api.Inner, ex("eq($0, $1)"), t1, u)},
		{"int int? text? bool?", join(api.Left, ex("$3"), t1, u)},
		{"int? int? bool? text?", join(api.Full, ex("$2"), t1, v)},
		{"text bool?", join(api.Semi, ex("and($3, $2)"), u, mapped(v, ex("$0"), ex("not($0)")))},
		{"text bool?", join(api.Anti, yes, u, t1)},
		{"int int? text bool?", apply(1, api.Inner, t1, u)},
		{"int int? bool? text?", apply(7, api.Left, t1, v)},
		{"int int?", apply(math.MaxInt, api.Semi, t1, u)},
		{"int int?", apply(1, api.Anti, t1, u)},
		{"int int? int int? int?", group(t1, []int{0, 1}, call(api.Count, 0), call(api.Sum, 1), call(api.Sum, 0))},
		{"int int int? int?", group(t1, nil, call(api.Some, 0), distinct(api.Some, 1), distinct(api.Sum, 1), call(api.Min, 0))},
		{"bool? text? bool? text?", group(u, []int{1}, call(api.Max, 0), call(api.Min, 1), call(api.Only, 0))},
		{"text", group(u, []int{0})},
		{"int?", union(mapped(t1, ex("$0")), mapped(t1, ex("$1")))},
		{"int int? int", union(wide(3), values("int int? int", ""), wide(3))},
		{"int int?", both(true, values("int int?", ""), values("int? int?", ""))},
		{"int int", both(false, values("int? int", ""), values("int int?", ""))},
		{"int? int", minus(true, values("int? int", ""), values("int int?", ""))},
		{"int? int", minus(false, values("int? int", ""), values("int int?", ""))},
		{"int int?", sorted(t1, 2, 3, api.Key{Col: 1, Desc: true}, api.Key{Col: 0})},
		{"bool? text", leaf(3, "bool? text", []int{0, 1}, nil, []int{1}, []int{1})},
		{"int int? bool", mapped(t1, ex("$0"), ex("$1"), exists(1, u))},
		{"bool bool? bool?", mapped(t1, in(1, wide(1), ex("$0")), in(1, wide(1), ex("$1")), in(2, mapped(t1, ex("$1")), ex("$0")))},
		{"bool bool?", mapped(t1, in(1, wide(2), ex("$0"), ex("1")), in(1, wide(2), ex("$0"), ex("null:int")))},
		{"int? text? int?", mapped(t1, one(1, wide(1)), one(1, mapped(u, ex("$0"))), one(1, mapped(t1, ex("$1"))))},
		{"int? int", mapped(t1, node(api.OAdd, ex("1"), one(1, wide(1))), node(api.OCoalesce, one(1, wide(1)), ex("2")))},
	} {
		cols, e := algebra.Cols(shopBase(), c.rel)
		if got := shown(cols); got != c.want || e != api.OK {
			t.Errorf("%v: %s, %v, not %s", c.rel, got, e, c.want)
		}
		if e := algebra.Check(shopBase(), c.rel); e != api.OK {
			t.Errorf("%v: %v", c.rel, e)
		}
	}
}

// wrong expects that r has not the form.
func wrong(t *testing.T, name string, r api.Rel) {
	t.Helper()
	if e := algebra.Check(shopBase(), r); e != api.ErrRel {
		t.Errorf("%s: Check: %v", name, e)
	}
	if cols, e := algebra.Cols(shopBase(), r); e != api.ErrRel || len(cols) > 0 {
		t.Errorf("%s: Cols: %v, %v", name, cols, e)
	}
}

// right expects that r has the form.
func right(t *testing.T, name string, r api.Rel) {
	t.Helper()
	if e := algebra.Check(shopBase(), r); e != api.OK {
		t.Errorf("%s: Check: %v", name, e)
	}
}

func TestNoForm(t *testing.T) {
	t1, u, yes := scan("t"), scan("u"), ex("true")
	two := func(op api.RelOp, l ...api.Rel) api.Rel { return api.Rel{Op: op, Ins: l} }
	for name, r := range map[string]api.Rel{
		"nothing":                       {},
		"no operation":                  {Op: 13},
		"a negative operation":          {Op: -1},
		"an operation far away":         {Op: math.MaxInt},
		"no table":                      scan("w"),
		"an empty name":                 scan(""),
		"a name with a blank":           scan("t "),
		"values of no columns":          {Op: api.RValues},
		"values of no columns, rows":    {Op: api.RValues, Rows: [][]api.Value{{}}},
		"values of no kind":             {Op: api.RValues, Cols: []api.Col{{}}},
		"values of another kind":        {Op: api.RValues, Cols: []api.Col{{Kind: 4}}},
		"a row of another kind":         values("int", "('1')\n"),
		"a null where there is none":    values("int", "(1)\n(null)\n"),
		"a row that is too short":       values("int int?", "(1)\n"),
		"a row that is too long":        values("int", "(1, null)\n"),
		"a row of no value":             {Op: api.RValues, Cols: columns("bool"), Rows: [][]api.Value{{{Kind: api.Bool, Int: 2}}}},
		"a filter of no condition":      {Op: api.RFilter, Ins: []api.Rel{t1}},
		"a filter of two conditions":    {Op: api.RFilter, Exprs: exs("true", "true"), Ins: []api.Rel{t1}},
		"a filter of a number":          filter(ex("$0"), t1),
		"a filter of a text":            filter(ex("$0"), u),
		"a filter of a null number":     filter(ex("null:int"), t1),
		"a filter of a column too many": filter(ex("isnull($2)"), t1),
		"a filter of a wrong x":         filter(yes, scan("w")),
		"a map of nothing":              mapped(t1),
		"a map of kinds that fit not":   mapped(t1, ex("add($0, 'x')")),
		"a map of a column too many":    mapped(t1, ex("$0"), ex("$2")),
		"a map of no expression":        mapped(t1, api.Expr{}),
		"a join of no condition":        {Op: api.RJoin, Ins: []api.Rel{t1, u}},
		"a join of two conditions":      {Op: api.RJoin, Exprs: exs("true", "true"), Ins: []api.Rel{t1, u}},
		"a join of a number":            join(api.Inner, ex("$0"), t1, u),
		"a join of a column too many":   join(api.Semi, ex("isnull($4)"), t1, u),
		"no join":                       join(5, yes, t1, u),
		"a negative join":               join(-1, yes, t1, u),
		"an apply Full":                 apply(1, api.Full, t1, u),
		"no apply":                      apply(1, 5, t1, u),
		"a negative apply":              apply(1, -1, t1, u),
		"an apply of 0":                 apply(0, api.Inner, t1, u),
		"an apply of -1":                apply(-1, api.Inner, t1, u),
		"a group of nothing":            group(t1, nil),
		"a group that falls":            group(t1, []int{1, 0}),
		"a group of a column twice":     group(t1, []int{0, 0}),
		"a group of a column too many":  group(t1, []int{0, 2}),
		"a group of a negative column":  group(t1, []int{-1}),
		"a group of columns far away":   group(t1, []int{math.MinInt, math.MaxInt}),
		"no call":                       group(t1, []int{0}, call(0, 0)),
		"a call too many":               group(t1, []int{0}, call(7, 0)),
		"a negative call":               group(t1, []int{0}, call(-1, 0)),
		"a count of a column":           group(t1, nil, call(api.Count, 1)),
		"a count of different ones":     group(t1, nil, distinct(api.Count, 0)),
		"a sum of texts":                group(u, nil, call(api.Sum, 0)),
		"a sum of bools":                group(u, nil, call(api.Sum, 1)),
		"a sum of a column too many":    group(t1, nil, call(api.Sum, 2)),
		"a some of a negative column":   group(t1, nil, call(api.Some, -1)),
		"a some of a column far away":   group(t1, nil, call(api.Some, math.MaxInt)),
		"a min of different ones":       group(t1, nil, distinct(api.Min, 0)),
		"a max of different ones":       group(t1, nil, distinct(api.Max, 0)),
		"an only of different ones":     group(t1, nil, distinct(api.Only, 0)),
		"a union of other kinds":        union(t1, u),
		"a union of other kinds later":  union(t1, t1, u),
		"a union of more columns":       union(t1, wide(3)),
		"a union of fewer columns":      union(t1, wide(1)),
		"both of other kinds":           both(true, t1, u),
		"both of more columns":          both(false, t1, wide(3)),
		"minus of other kinds":          minus(false, t1, u),
		"minus of fewer columns":        minus(true, t1, wide(1)),
		"a sort of a column twice":      sorted(t1, 0, -1, api.Key{Col: 1}, api.Key{Col: 0}, api.Key{Col: 1, Desc: true}),
		"a sort of a column too many":   sorted(t1, 0, -1, api.Key{Col: 2}),
		"a sort of a negative column":   sorted(t1, 0, -1, api.Key{Col: -1}),
		"a sort of a column far away":   sorted(t1, 0, -1, api.Key{Col: math.MinInt}),
		"a sort behind -1":              sorted(t1, -1, -1),
		"a sort of -2":                  sorted(t1, 0, -2),
		"a leaf of no columns":          leaf(1, ""),
		"a leaf of no kind":             {Op: api.RLeaf, Cols: []api.Col{{Kind: api.Int}, {}}},
		"a leaf with a negative number": leaf(-1, "int"),
		"a leaf with a set that falls":  leaf(1, "int int", []int{1, 0}),
		"a leaf with a column twice":    leaf(1, "int int", []int{1, 1}),
		"a leaf with a set too far":     leaf(1, "int int", []int{0}, []int{1, 2}),
		"a leaf with a negative column": leaf(1, "int int", []int{-1, 0}),
		"one input of a union":          union(t1),
		"no input of a union":           union(),
		"no input of a sort":            {Op: api.RSort, Fetch: -1},
		"no input of a map":             {Op: api.RMap, Exprs: exs("1")},
		"two inputs of a filter":        {Op: api.RFilter, Exprs: exs("true"), Ins: []api.Rel{t1, t1}},
		"two inputs of a group":         {Op: api.RGroup, Group: []int{0}, Ins: []api.Rel{t1, t1}},
		"one input of a join":           {Op: api.RJoin, Exprs: exs("true"), Ins: []api.Rel{t1}},
		"three inputs of a join":        {Op: api.RJoin, Exprs: exs("true"), Ins: []api.Rel{t1, t1, t1}},
		"one input of an apply":         {Op: api.RApply, N: 1, Ins: []api.Rel{t1}},
		"one input of both":             two(api.RBoth, t1),
		"three inputs of both":          two(api.RBoth, t1, t1, t1),
		"one input of minus":            two(api.RMinus, t1),
		"three inputs of minus":         two(api.RMinus, t1, t1, t1),
		"an input of a scan":            {Op: api.RScan, Name: "t", Ins: []api.Rel{t1}},
		"an input of values":            {Op: api.RValues, Cols: columns("int"), Ins: []api.Rel{t1}},
		"an input of a leaf":            {Op: api.RLeaf, Cols: columns("int"), Ins: []api.Rel{t1}},
		"an exists of 0":                filter(exists(0, u), t1),
		"an exists of -1":               filter(exists(-1, u), t1),
		"an exists of no relation":      filter(exists(1, scan("w")), t1),
		"an exists without a relation":  filter(api.Expr{Op: api.OExists, N: 1}, t1),
		"an exists with two of them":    filter(api.Expr{Op: api.OExists, N: 1, Rels: []api.Rel{u, u}}, t1),
		"an exists with an argument":    filter(api.Expr{Op: api.OExists, N: 1, Args: exs("$0"), Rels: []api.Rel{u}}, t1),
		"an exists as a number":         mapped(t1, node(api.ONeg, exists(1, u))),
		"an in of 0":                    filter(in(0, wide(1), ex("$0")), t1),
		"an in without a relation":      filter(api.Expr{Op: api.OIn, N: 1, Args: exs("$0")}, t1),
		"an in without arguments":       filter(in(1, wide(1)), t1),
		"an in of too few":              filter(in(1, t1, ex("$0")), t1),
		"an in of too many":             filter(in(1, wide(1), ex("$0"), ex("$1")), t1),
		"an in of another kind":         filter(in(1, wide(2), ex("$0"), ex("'x'")), t1),
		"an in of a column too many":    filter(in(1, wide(2), ex("$0"), ex("$2")), t1),
		"a one of 0":                    mapped(t1, one(0, wide(1))),
		"a one without a relation":      mapped(t1, api.Expr{Op: api.OOne, N: 1}),
		"a one with two columns":        mapped(t1, one(1, t1)),
		"a one with an argument":        mapped(t1, api.Expr{Op: api.OOne, N: 1, Args: exs("$0"), Rels: []api.Rel{wide(1)}}),
		"a one of another kind":         mapped(t1, node(api.OAdd, ex("1"), one(1, mapped(u, ex("$0"))))),
		"a relation in an addition":     mapped(t1, api.Expr{Op: api.OAdd, Args: exs("1", "2"), Rels: []api.Rel{t1}}),
		"a relation in a column":        mapped(t1, api.Expr{Op: api.OCol, Rels: []api.Rel{t1}}),
	} {
		wrong(t, name, r)
		// It is not there for others either: neither as an input nor in an expression.
		wrong(t, name+", sorted", sorted(r, 0, -1))
		wrong(t, name+", as the last input", union(t1, r))
		wrong(t, name+", in an expression", filter(node(api.ONot, exists(1, r)), t1))
	}
}

// relFields makes each field of a relation but Op and Ins another one than zero.
var relFields = map[string]func(r *api.Rel){
	"Name":   func(r *api.Rel) { r.Name = "t" },
	"N":      func(r *api.Rel) { r.N = 1 },
	"Join":   func(r *api.Rel) { r.Join = api.Semi },
	"All":    func(r *api.Rel) { r.All = true },
	"Cols":   func(r *api.Rel) { r.Cols = columns("int") },
	"Rows":   func(r *api.Rel) { r.Rows = [][]api.Value{{number(1)}} },
	"Sets":   func(r *api.Rel) { r.Sets = [][]int{{0}} },
	"Exprs":  func(r *api.Rel) { r.Exprs = exs("true") },
	"Group":  func(r *api.Rel) { r.Group = []int{0} },
	"Calls":  func(r *api.Rel) { r.Calls = []api.Call{call(api.Count, 0)} },
	"Keys":   func(r *api.Rel) { r.Keys = []api.Key{{Col: 0}} },
	"Offset": func(r *api.Rel) { r.Offset = 1 },
	"Fetch":  func(r *api.Rel) { r.Fetch = -1 },
}

func TestOtherFields(t *testing.T) {
	one := wide(1)
	for fields, r := range map[string]api.Rel{
		"Name":              scan("t"),
		"Cols Rows":         values("int", "(1)\n"),
		"Exprs":             filter(ex("true"), one),
		"Exprs ":            mapped(one, ex("true")),
		"Join Exprs":        join(api.Inner, ex("true"), one, one),
		"N Join":            apply(1, api.Inner, one, one),
		"Group Calls":       group(one, []int{0}, call(api.Count, 0)),
		"":                  union(one, one),
		"All":               both(false, one, one),
		"All ":              minus(false, one, one),
		"Keys Offset Fetch": sorted(one, 0, 0),
		"N Cols Sets":       leaf(0, "int"),
	} {
		for name, set := range relFields {
			changed := r
			set(&changed)
			has := strings.Contains(" "+fields+" ", " "+name+" ")
			if e := algebra.Check(shopBase(), changed); (e == api.OK) != has || e != api.OK && e != api.ErrRel {
				t.Errorf("%s of %v: %v", name, r, e)
			}
		}
	}
}

func TestOtherFieldsOfExpressions(t *testing.T) {
	fields := map[string]func(e *api.Expr){
		"N":    func(e *api.Expr) { e.N = 1 },
		"M":    func(e *api.Expr) { e.M = 1 },
		"Kind": func(e *api.Expr) { e.Kind = api.Int },
		"Lit":  func(e *api.Expr) { e.Lit = number(1) },
		"Args": func(e *api.Expr) { e.Args = append(e.Args, ex("1")) },
		"Rels": func(e *api.Expr) { e.Rels = append(e.Rels, wide(1)) },
	}
	for has, e := range map[string]api.Expr{
		"N":     ex("$0"),
		"N M":   ex("^1.0"),
		"Lit":   ex("7"),
		"Args":  ex("and(true, $2)"),
		"":      ex("neg($0)"),
		"N ":    exists(1, wide(1)),
		"N  ":   in(1, wide(1), ex("$0")),
		"N   ":  one(1, wide(1)),
		"Kind ": ex("null:int"), // this field becomes what it is
	} {
		for name, set := range fields {
			changed := e
			set(&changed)
			if name == "Args" && has == "Args" {
				changed.Args[len(changed.Args)-1] = ex("false")
			}
			if name == "Lit" && has == "Kind " { // a literal with a value
				continue
			}
			r := apply(1, api.Semi, wide(2), mapped(leaf(1, "int int bool"), changed))
			want := strings.Contains(" "+has+" ", " "+name+" ") || e.Kind == api.Int && name == "Kind"
			if e := algebra.Check(shopBase(), r); (e == api.OK) != want || e != api.OK && e != api.ErrRel {
				t.Errorf("%s of %v: %v", name, changed, e)
			}
		}
	}
}

func TestEmptyLists(t *testing.T) {
	full := func(r api.Rel) api.Rel {
		none := api.Rel{
			Cols: []api.Col{}, Rows: [][]api.Value{}, Sets: [][]int{}, Exprs: []api.Expr{}, Group: []int{}, Calls: []api.Call{}, Keys: []api.Key{},
			Ins: []api.Rel{},
		}
		none.Op, none.Name, none.N, none.Fetch = r.Op, r.Name, r.N, r.Fetch
		if len(r.Cols) > 0 {
			none.Cols = r.Cols
		}
		if len(r.Ins) > 0 {
			none.Ins = r.Ins
		}
		for _, e := range r.Exprs {
			if e.Args == nil {
				e.Args = []api.Expr{}
			}
			if e.Rels == nil {
				e.Rels = []api.Rel{}
			}
			none.Exprs = append(none.Exprs, e)
		}
		return none
	}
	one := full(wide(1))
	for _, r := range []api.Rel{
		full(scan("t")), full(values("int", "")), full(filter(ex("isnull($0)"), one)), full(mapped(one, ex("$0"), exists(1, one))),
		full(sorted(one, 0, -1)), full(union(one, one)), full(apply(1, api.Inner, one, one)), one,
	} {
		right(t, "empty lists", r)
	}
}

func TestOuterRows(t *testing.T) {
	t1, u := scan("t"), scan("u")
	inner := filter(outerOf(1, 1), u)
	for name, r := range map[string]api.Rel{
		"second input":                  apply(1, api.Semi, t1, inner),
		"deep in the second input":      apply(1, api.Left, t1, sorted(union(u, join(api.Semi, ex("true"), u, mapped(inner, ex("1")))), 0, 1)),
		"exists":                        filter(exists(1, inner), t1),
		"in":                            filter(in(1, mapped(t1, ex("^1.0")), ex("$0")), t1),
		"one":                           mapped(t1, one(1, mapped(u, ex("add(^1.0, ^1.1)")))),
		"exists in a map":               mapped(t1, exists(1, inner)),
		"exists of a join, both inputs": join(api.Left, exists(1, filter(outerOf(1, 3), t1)), u, t1),
		"exists in the second input":    apply(1, api.Semi, t1, filter(exists(2, filter(ex("and(eq(^1.0, 1), ^2.1)"), t1)), u)),
		"the innermost one":             apply(1, api.Semi, t1, filter(exists(1, filter(ex("^1.1"), t1)), u)),
		"the next one behind it":        apply(1, api.Semi, u, apply(1, api.Semi, t1, filter(outerOf(1, 0), u))),
		"from the outside in x":         apply(1, api.Semi, t1, apply(1, api.Semi, inner, filter(ex("^1.1"), t1))),
		"from the outside in an arg":    filter(exists(1, filter(in(1, wide(1), ex("^1.0")), u)), t1),
		"another number":                apply(5, api.Semi, t1, apply(3, api.Semi, u, filter(ex("and(eq(^5.0, 1), ^3.1)"), t1))),
		"within an outer join's map":    apply(2, api.Left, t1, mapped(u, ex("^2.1"), ex("^2.0"))),
		"a relation in a relation":      filter(exists(1, filter(exists(2, filter(ex("and(eq(^1.0, 1), ^2.1)"), t1)), u)), t1),
		"more columns than a relation":  join(api.Anti, exists(1, filter(outerOf(1, 31), t1)), wide(16), wide(16)),
	} {
		right(t, name, r)
	}
	for name, r := range map[string]api.Rel{
		"none":                          filter(outerOf(1, 0), t1),
		"first input":                   apply(1, api.Semi, filter(outerOf(1, 0), t1), u),
		"another number":                apply(1, api.Semi, t1, filter(outerOf(2, 0), u)),
		"no column":                     apply(1, api.Semi, t1, filter(outerOf(1, 2), u)),
		"a negative column":             apply(1, api.Semi, t1, filter(outerOf(1, -1), u)),
		"a column far away":             apply(1, api.Semi, t1, filter(outerOf(1, math.MaxInt), u)),
		"number 0":                      apply(1, api.Semi, t1, filter(outerOf(0, 0), u)),
		"another kind":                  apply(1, api.Semi, u, filter(outerOf(1, 0), t1)),
		"the same expression":           filter(node(api.OAnd, exists(1, u), outerOf(1, 0)), t1),
		"an argument of the same":       filter(in(1, wide(1), ex("^1.0")), t1),
		"the input of the filter":       filter(exists(1, u), inner),
		"the other input of a join":     join(api.Inner, exists(1, u), t1, inner),
		"the columns of x alone":        filter(exists(1, filter(outerOf(1, 2), t1)), t1),
		"the innermost one has it not":  apply(1, api.Semi, wide(3), apply(1, api.Semi, t1, filter(outerOf(1, 2), u))),
		"the innermost one's kind":      apply(1, api.Semi, t1, filter(exists(1, filter(outerOf(1, 0), t1)), u)),
		"behind the apply":              filter(outerOf(1, 0), apply(1, api.Semi, t1, u)),
		"beside the second input":       union(apply(1, api.Semi, t1, t1), filter(outerOf(1, 0), t1)),
		"columns of a map, not under":   filter(exists(1, filter(outerOf(1, 1), t1)), mapped(t1, ex("$0"))),
		"of a semi join, what is above": filter(exists(1, filter(outerOf(1, 2), t1)), join(api.Semi, ex("true"), t1, wide(3))),
	} {
		wrong(t, name, r)
	}
}

func TestNullsOfOuterRows(t *testing.T) {
	cols := func(r api.Rel) string {
		l, e := algebra.Cols(shopBase(), r)
		if e != api.OK {
			t.Errorf("%v: %v", r, e)
		}
		return shown(l)
	}
	if got := cols(apply(1, api.Inner, scan("t"), mapped(scan("u"), ex("^1.0"), ex("^1.1")))); got != "int int? int int?" {
		t.Errorf("apply: %s", got)
	}
	if got := cols(mapped(scan("t"), in(1, mapped(wide(1), ex("^1.0")), ex("$0")), in(1, mapped(wide(1), ex("^1.1")), ex("$0")))); got != "bool bool?" {
		t.Errorf("in: %s", got)
	}
	// What the join's condition is on has not the nulls that the join makes.
	full := join(api.Full, in(1, mapped(wide(1), ex("^1.0")), ex("$2")), scan("t"), wide(1))
	if got := cols(full); got != "int? int? int?" {
		t.Errorf("full: %s", got)
	}
}

func TestLimitsOfForm(t *testing.T) {
	yes := ex("true")
	many := func(n int, e api.Expr) []api.Expr { return copies(n, e) }
	keys := func(n int) []api.Key {
		var out []api.Key
		for i := range n {
			out = append(out, api.Key{Col: n - 1 - i})
		}
		return out
	}
	all := func(n int) []int {
		var out []int
		for i := range n {
			out = append(out, i)
		}
		return out
	}
	ones := func(n int) api.Rel {
		return api.Rel{Op: api.RValues, Cols: columns("int"), Rows: copies(n, []api.Value{number(1)})}
	}
	for name, c := range map[string]struct {
		most int
		of   func(n int) api.Rel
	}{
		"columns of a leaf":         {api.MaxCols, wide},
		"columns of values":         {api.MaxCols, func(n int) api.Rel { return values(strings.Repeat("bool ", n), "") }},
		"expressions of a map":      {api.MaxCols, func(n int) api.Rel { return mapped(scan("t"), many(n, ex("$0"))...) }},
		"columns of an inner join":  {api.MaxCols, func(n int) api.Rel { return join(api.Inner, yes, wide(n-1), wide(1)) }},
		"columns of a left join":    {api.MaxCols, func(n int) api.Rel { return join(api.Left, yes, wide(1), wide(n-1)) }},
		"columns of a full join":    {api.MaxCols, func(n int) api.Rel { return join(api.Full, yes, wide(8), wide(n-8)) }},
		"columns of an inner apply": {api.MaxCols, func(n int) api.Rel { return apply(1, api.Inner, wide(n-1), wide(1)) }},
		"columns of a left apply":   {api.MaxCols, func(n int) api.Rel { return apply(1, api.Left, wide(1), wide(n-1)) }},
		"columns and calls":         {api.MaxCols, func(n int) api.Rel { return group(wide(16), all(9), copies(n-9, call(api.Count, 0))...) }},
		"calls":                     {api.MaxCols, func(n int) api.Rel { return group(wide(1), nil, copies(n, call(api.Sum, 0))...) }},
		"inputs of a union":         {api.MaxCols, func(n int) api.Rel { return union(copies(n, scan("t"))...) }},
		"sets of a leaf":            {api.MaxKeys, func(n int) api.Rel { return leaf(0, "int", copies(n, []int{0})...) }},
		"the number of a leaf":      {api.MaxFuel, func(n int) api.Rel { return leaf(n, "int") }},
		"offset":                    {api.MaxRows, func(n int) api.Rel { return sorted(scan("t"), n, -1) }},
		"fetch":                     {api.MaxRows, func(n int) api.Rel { return sorted(scan("t"), 0, n) }},
		"rows of values":            {api.MaxRows, ones},
		"arguments of and":          {api.MaxCols, func(n int) api.Rel { return filter(node(api.OAnd, many(n, yes)...), scan("t")) }},
		"arguments of in":           {api.MaxCols, func(n int) api.Rel { return filter(in(1, wide(n), many(n, ex("1"))...), scan("t")) }},
		"length of a text": {api.MaxText, func(n int) api.Rel {
			return mapped(scan("t"), api.Expr{Op: api.OLit, Kind: api.Text, Lit: api.Value{Kind: api.Text, Text: strings.Repeat("x", n)}})
		}},
		"depth of inputs":            {api.MaxDepth, deepRel},
		"depth of an expression":     {api.MaxDepth, func(n int) api.Rel { return filter(deepExpr(n-1), scan("t")) }},
		"depth under an expression":  {api.MaxDepth, func(n int) api.Rel { return filter(exists(1, deepRel(n-2)), scan("t")) }},
		"depth of arguments of in":   {api.MaxDepth, func(n int) api.Rel { return filter(in(1, leaf(0, "bool"), deepExpr(n-2)), scan("t")) }},
		"depth of a second input":    {api.MaxDepth, func(n int) api.Rel { return apply(1, api.Semi, scan("t"), deepRel(n-1)) }},
		"depth of a filter deep in":  {api.MaxDepth, func(n int) api.Rel { return sorted(filter(deepExpr(n-2), scan("t")), 0, -1) }},
		"nodes of inputs":            {api.MaxNodes, func(n int) api.Rel { return manyRels(n) }},
		"nodes of expressions":       {api.MaxNodes, func(n int) api.Rel { return manyExprs(n) }},
		"nodes within an expression": {api.MaxNodes, func(n int) api.Rel { return filter(exists(1, manyRels(n-3)), scan("t")) }},
	} {
		right(t, name, c.of(c.most))
		wrong(t, name+", one more", c.of(c.most+1))
	}
	right(t, "keys of all columns", sorted(wide(16), 0, 0, keys(16)...))
	wrong(t, "more keys", sorted(wide(16), 0, 0, append(keys(16), api.Key{Col: 3})...))
	right(t, "the greatest offset and fetch", sorted(scan("t"), api.MaxRows, api.MaxRows))
	wrong(t, "an offset far away", sorted(scan("t"), math.MaxInt, 0))
	wrong(t, "a fetch far away", sorted(scan("t"), 0, math.MinInt))
	// What a condition is on are no columns of a relation.
	for _, how := range []api.Join{api.Semi, api.Anti} {
		right(t, "all columns of both inputs", join(how, ex("eq($0, $31)"), wide(16), wide(16)))
		right(t, "all columns of both inputs of an apply", apply(1, how, wide(16), wide(16)))
		wrong(t, "a column behind those of both", join(how, ex("eq($0, $32)"), wide(16), wide(16)))
	}
	noText := ex("'x'")
	noText.Lit.Text = "\n"
	wrong(t, "no text", mapped(scan("t"), noText))
}

// spread has n nodes, which are at least 49: one over 16, and each of these over two chains.
func spread[T any](n int, over func(l ...T) T, chain func(n int) T) T {
	var l []T
	for i := range 16 {
		size := (n - 1 + i) / 16
		l = append(l, over(chain((size-1)/2), chain(size/2)))
	}
	return over(l...)
}

// manyRels has n nodes, of relations.
func manyRels(n int) api.Rel { return spread(n, union, deepRel) }

// manyExprs has n nodes, all but two of them of an expression.
func manyExprs(n int) api.Rel {
	return filter(spread(n-2, func(l ...api.Expr) api.Expr { return node(api.OAnd, l...) }, deepExpr), scan("t"))
}

// TestSharedMemory has relations that have more nodes than can be gone through, because they are there in themselves.
func TestSharedMemory(t *testing.T) {
	b := shopBase()
	r := scan("t")
	e := ex("true")
	for range 60 {
		r = union(copies(16, r)...)
		e = node(api.OAnd, copies(16, e)...)
	}
	wrong(t, "inputs", r)
	wrong(t, "arguments", filter(e, scan("t")))
	wrong(t, "a million inputs", union(copies(1<<20, scan("t"))...))
	wrong(t, "a million arguments", filter(node(api.OOr, copies(1<<20, ex("true"))...), scan("t")))
	wrong(t, "a million expressions", mapped(scan("t"), copies(1<<20, ex("$0"))...))
	wrong(t, "a million calls", group(scan("t"), nil, copies(1<<20, call(api.Count, 0))...))
	wrong(t, "a million keys", sorted(scan("t"), 0, -1, copies(1<<20, api.Key{})...))
	wrong(t, "a million columns", api.Rel{Op: api.RLeaf, Cols: copies(1<<20, api.Col{Kind: api.Int})})
	wrong(t, "a million deep", deepRel(1<<20))
	loop := sorted(scan("t"), 0, -1)
	loop.Ins[0] = loop
	wrong(t, "in itself", loop)
	again := exists(1, scan("t"))
	again.Rels[0] = filter(again, scan("t"))
	wrong(t, "in its own expression", filter(again, scan("t")))
	if n, e := algebra.Nodes(b, union(copies(16, union(copies(16, scan("t"))...))...)); n != 273 || e != api.OK {
		t.Errorf("273 nodes: %d, %v", n, e)
	}
}

func TestExamples(t *testing.T) {
	b := shopBase()
	for s, want := range map[string]string{
		"filter(gt($0, 1), scan(t))":                                "int int?",
		"join(left, eq($0, $3), scan(t), scan(t))":                  "int int? int? int?",
		"apply(1, semi, scan(t), filter(eq($0, ^1.1), scan(t)))":    "int int?",
		"filter(exists(1, filter(eq($0, ^1.1), scan(t))), scan(t))": "int int?",
		"group([1], count, sum($0), scan(t))":                       "int? int int?",
	} {
		cols, e := algebra.Cols(b, read(s))
		if shown(cols) != want || e != api.OK {
			t.Errorf("%s: %v, %v, not %s", s, cols, e, want)
		}
	}
	r := read("apply(1, semi, scan(t), filter(eq($0, ^1.1), scan(t)))")
	second, e := algebra.At(b, r, []int{1})
	if e != api.OK || algebra.Check(b, second) != api.ErrRel {
		t.Errorf("the second input: %v, %v", second, e)
	}
}
