package algebra_test

import (
	"math"
	"slices"
	"testing"

	"tactician/algebra"
	"tactician/api"
)

// P6.2

// written is the string of r, or the error.
func written(t *testing.T, r api.Rel, e api.Errno) string {
	t.Helper()
	if e != api.OK {
		if !isZero(r) {
			t.Errorf("error %v, and %v", e, r)
		}
		return map[api.Errno]string{
			api.ErrArg: "ErrArg", api.ErrLarge: "ErrLarge", api.ErrNone: "ErrNone", api.ErrBase: "ErrBase", api.ErrRel: "ErrRel",
		}[e]
	}
	s, e := algebra.String(shopBase(), r)
	if e != api.OK {
		t.Fatalf("%v: %v", r, e)
	}
	return s
}

func TestPlain(t *testing.T) {
	for s, want := range map[string]bool{
		"scan(t)":        true,
		"leaf(1; int; )": true,
		"sort([0], 0, -1, filter(and(gt($0, 1), isnull($1)), join(full, eq($0, $3), scan(t), union(scan(t), scan(t)))))": true,
		"apply(1, inner, scan(t), scan(u))":                                                  false,
		"apply(1, semi, scan(t), filter(eq(^1.0, 1), scan(u)))":                              false,
		"union(scan(t), minus(scan(t), apply(1, anti, scan(t), scan(u))))":                   false,
		"filter(exists(1, scan(u)), scan(t))":                                                false,
		"filter(not(in(1, $0, leaf(1; int; ))), scan(t))":                                    false,
		"map(one(1, values(int; (1))), scan(t))":                                             false,
		"sort([], 0, -1, map($0, add(1, one(1, values(int; (1)))), scan(t)))":                false,
		"join(left, or(eq($0, 1), exists(1, scan(t))), scan(t), scan(t))":                    false,
		"filter(exists(1, apply(2, inner, scan(t), scan(u))), scan(t))":                      false,
		"map(case(isnull($1), 1, $1), coalesce($1, 2), in(1, 1, map($0, scan(t))), scan(t))": false,
	} {
		got, e := algebra.Plain(shopBase(), read(s))
		if got != want || e != api.OK {
			t.Errorf("%s: %v, %v", s, got, e)
		}
	}
}

func TestScansAndLeaves(t *testing.T) {
	b := shopBase()
	for _, c := range []struct {
		rel    string
		scans  []string
		leaves []int
	}{
		{"values(int; )", nil, nil},
		{"scan(u)", []string{"u"}, nil},
		{"leaf(0; int; )", nil, []int{0}},
		{"join(inner, true, scan(u), join(inner, true, scan(t), scan(u)))", []string{"t", "u"}, nil},
		{"union(scan(t), leaf(10; int int; ), scan(t), leaf(9; int int; ), leaf(10; int int; [0]))", []string{"t"}, []int{9, 10}},
		{"filter(exists(1, scan(u)), scan(t))", []string{"t", "u"}, nil},
		{"filter(exists(1, leaf(2000; text; )), leaf(3; int; ))", nil, []int{3, 2000}},
		{"map(one(1, map(one(2, leaf(7; int; )), scan(v))), not(in(1, 1, union(leaf(5; int; ), leaf(7; int; )))), scan(u))", []string{"u", "v"}, []int{5, 7}},
		{"apply(1, left, leaf(2; int; ), filter(in(2, exists(3, scan(t)), map($0, scan(v))), leaf(1; int; )))", []string{"t", "v"}, []int{1, 2}},
	} {
		r := read(c.rel)
		if got, e := algebra.Scans(b, r); !slices.Equal(got, c.scans) || e != api.OK {
			t.Errorf("%s: Scans: %v, %v", c.rel, got, e)
		}
		if got, e := algebra.Leaves(b, r); !slices.Equal(got, c.leaves) || e != api.OK {
			t.Errorf("%s: Leaves: %v, %v", c.rel, got, e)
		}
	}
	names := api.Base{}
	for _, name := range []string{"b", "a", "a_", "a0", "ab", "z"} {
		names.Tables = append(names.Tables, api.Table{Name: name, Cols: []api.Column{{Name: "c", Kind: api.Int}}})
	}
	all := union(scan("z"), scan("ab"), scan("a_"), scan("b"), scan("a0"), scan("a"), scan("ab"))
	if got, e := algebra.Scans(names, all); !slices.Equal(got, []string{"a", "a0", "a_", "ab", "b", "z"}) || e != api.OK {
		t.Errorf("Scans in order: %v, %v", got, e)
	}
}

func TestNodes(t *testing.T) {
	for s, want := range map[string]int{
		"scan(t)":                    1,
		"values(int; (1) (2) (3))":   1,
		"filter(true, scan(t))":      3,
		"filter(eq($0, 1), scan(t))": 5,
		"apply(1, semi, scan(t), filter(eq($0, ^1.1), scan(t)))":                     7,
		"map($0, add($0, $1), scan(t))":                                              6,
		"join(inner, true, scan(t), scan(u))":                                        4,
		"group([0], count, sum($1), scan(t))":                                        2,
		"sort([0 1], 0, -1, union(scan(t), scan(t), scan(t)))":                       5,
		"filter(exists(1, scan(u)), scan(t))":                                        4,
		"filter(not(in(1, $0, add($1, 1), filter(isnull($1), scan(t)))), scan(t))":   12,
		"map(one(1, map(one(2, map(^1.0, values(int; (1)))), scan(u))), 1, scan(t))": 10,
	} {
		if got, e := algebra.Nodes(shopBase(), read(s)); got != want || e != api.OK {
			t.Errorf("%s: %d, %v, not %d", s, got, e, want)
		}
	}
	for _, r := range []api.Rel{manyRels(api.MaxNodes), manyExprs(api.MaxNodes)} {
		if got, e := algebra.Nodes(shopBase(), r); got != api.MaxNodes || e != api.OK {
			t.Errorf("the most nodes: %d, %v", got, e)
		}
	}
}

const nested = "apply(1, semi, union(scan(t), minus(scan(t), filter(exists(1, scan(u)), scan(t)))), filter(eq($0, ^1.1), map(^1.0, scan(v))))"

func TestAt(t *testing.T) {
	b, r := shopBase(), read(nested)
	for _, c := range []struct {
		path []int
		want string
	}{
		{nil, nested},
		{[]int{}, nested},
		{[]int{0}, "union(scan(t), minus(scan(t), filter(exists(1, scan(u)), scan(t))))"},
		{[]int{0, 0}, "scan(t)"},
		{[]int{0, 1}, "minus(scan(t), filter(exists(1, scan(u)), scan(t)))"},
		{[]int{0, 1, 1}, "filter(exists(1, scan(u)), scan(t))"},
		{[]int{0, 1, 1, 0}, "scan(t)"},
		{[]int{1, 0, 0}, "scan(v)"},
		{[]int{2}, "ErrNone"},
		{[]int{-1}, "ErrNone"},
		{[]int{0, 2}, "ErrNone"},
		{[]int{0, 0, 0}, "ErrNone"},
		{[]int{0, 1, 1, 1}, "ErrNone"},
		{[]int{1, 1}, "ErrNone"},
		{[]int{1, 0, -1}, "ErrNone"},
		{[]int{math.MaxInt}, "ErrNone"},
		{[]int{math.MinInt}, "ErrNone"},
		{make([]int, 1<<20), "ErrNone"},
	} {
		got, e := algebra.At(b, r, c.path)
		if s := written(t, got, e); s != c.want {
			t.Errorf("At %v: %s, not %s", c.path[:min(len(c.path), 9)], s, c.want)
		}
	}
	// These parts are not closed, and have no string.
	for _, c := range []struct {
		path []int
		want api.Rel
	}{
		{[]int{1}, filter(ex("eq($0, ^1.1)"), mapped(scan("v"), ex("^1.0")))},
		{[]int{1, 0}, mapped(scan("v"), ex("^1.0"))},
	} {
		if got, e := algebra.At(b, r, c.path); !equal(got, c.want) || e != api.OK {
			t.Errorf("At %v: %v, %v", c.path, got, e)
		}
	}
}

func TestReplace(t *testing.T) {
	b, r := shopBase(), read(nested)
	open := mapped(scan("u"), ex("^1.1"))
	for _, c := range []struct {
		path []int
		by   api.Rel
		want string
	}{
		{nil, read("scan(u)"), "ErrArg"},
		{nil, read("scan(t)"), "scan(t)"},
		{[]int{}, values("int? int", "(1, 2)\n"), "values(int? int; (1, 2))"},
		{[]int{0, 0}, values("int? int", ""), "apply(1, semi, union(values(int? int; ), minus(scan(t), filter(exists(1, scan(u)), scan(t)))), filter(eq($0, ^1.1), map(^1.0, scan(v))))"},
		{[]int{0, 1}, read("scan(t)"), "apply(1, semi, union(scan(t), scan(t)), filter(eq($0, ^1.1), map(^1.0, scan(v))))"},
		{[]int{0, 1, 1, 0}, leaf(4, "int int"), "apply(1, semi, union(scan(t), minus(scan(t), filter(exists(1, scan(u)), leaf(4; int int; )))), filter(eq($0, ^1.1), map(^1.0, scan(v))))"},
		{[]int{1}, leaf(4, "int?"), "apply(1, semi, union(scan(t), minus(scan(t), filter(exists(1, scan(u)), scan(t)))), leaf(4; int?; ))"},
		{[]int{1}, open, "apply(1, semi, union(scan(t), minus(scan(t), filter(exists(1, scan(u)), scan(t)))), map(^1.1, scan(u)))"},
		{[]int{1, 0}, open, "apply(1, semi, union(scan(t), minus(scan(t), filter(exists(1, scan(u)), scan(t)))), filter(eq($0, ^1.1), map(^1.1, scan(u))))"},
		{[]int{1, 0, 0}, filter(outerOf(1, 0), scan("v")), "apply(1, semi, union(scan(t), minus(scan(t), filter(exists(1, scan(u)), scan(t)))), filter(eq($0, ^1.1), map(^1.0, filter(eq(^1.0, 1), scan(v)))))"},
		// There is no such part, whatever is put there.
		{[]int{2}, read("scan(t)"), "ErrNone"},
		{[]int{-1}, open, "ErrNone"},
		{[]int{0, 0, 0}, scan("w"), "ErrNone"},
		{[]int{1, 1}, api.Rel{}, "ErrNone"},
		{[]int{0, math.MaxInt}, deepRel(api.MaxDepth + 1), "ErrNone"},
		// It has not the form, by itself or where it is put.
		{nil, api.Rel{}, "ErrRel"},
		{[]int{0}, scan("w"), "ErrRel"},
		{[]int{1, 0}, mapped(scan("u"), ex("$2")), "ErrRel"},
		{nil, open, "ErrRel"},
		{[]int{0}, filter(outerOf(1, 1), scan("t")), "ErrRel"},
		{[]int{0, 1, 1, 0}, filter(outerOf(1, 1), scan("t")), "ErrRel"},
		{[]int{1}, mapped(scan("u"), ex("^2.1")), "ErrRel"},
		{[]int{1}, mapped(scan("u"), ex("^1.2")), "ErrRel"},
		{[]int{1}, mapped(scan("u"), ex("concat(^1.1, 'x')")), "ErrRel"},
		{[]int{1}, deepRel(api.MaxDepth + 1), "ErrRel"}, // it has other columns, too
		{[]int{0}, manyRels(api.MaxNodes + 1), "ErrRel"},
		// Its columns are others.
		{[]int{0}, read("scan(u)"), "ErrArg"},
		{[]int{0}, read("map($0, scan(t))"), "ErrArg"},
		{[]int{0}, wide(3), "ErrArg"},
		{[]int{1}, mapped(scan("u"), ex("$0")), "ErrArg"},
		{[]int{1, 0, 0}, values("text? bool", ""), "ErrArg"},
		{[]int{0}, mapped(deepRel(api.MaxDepth-1), ex("1")), "ErrArg"}, // it would be too deep, too
		// The whole is too large.
		{[]int{0}, deepRel(api.MaxDepth), "ErrLarge"},
		{[]int{0, 1, 1}, deepRel(api.MaxDepth - 2), "ErrLarge"},
		{[]int{0, 1, 0}, manyRels(api.MaxNodes - 4), "ErrLarge"},
		{[]int{1, 0, 0}, filter(deepExpr(api.MaxDepth-3), scan("v")), "ErrLarge"},
	} {
		got, e := algebra.Replace(b, r, c.path, c.by)
		if s := written(t, got, e); s != c.want {
			t.Errorf("Replace %v by %v: %s, not %s", c.path, c.by, s, c.want)
		}
	}
}

func TestReplaceToTheLimits(t *testing.T) {
	b := shopBase()
	for name, c := range map[string]struct {
		r    api.Rel
		path []int
		by   func(more int) api.Rel
		most int
	}{
		"depth":                {deepRel(3), []int{0, 0}, deepRel, api.MaxDepth - 2},
		"depth in an apply":    {apply(1, api.Semi, scan("t"), scan("t")), []int{1}, deepRel, api.MaxDepth - 1},
		"depth of expressions": {deepRel(5), []int{0, 0, 0}, func(n int) api.Rel { return filter(deepExpr(n), scan("t")) }, api.MaxDepth - 4},
		"nodes":                {union(scan("t"), deepRel(9)), []int{1}, manyRels, api.MaxNodes - 2},
		"nodes of expressions": {filter(ex("eq($0, 1)"), deepRel(9)), []int{0}, manyExprs, api.MaxNodes - 4},
		"nodes of others":      {union(manyExprs(200), scan("t")), []int{1}, manyRels, api.MaxNodes - 201},
	} {
		got, e := algebra.Replace(b, c.r, c.path, c.by(c.most))
		if part, f := algebra.At(b, got, c.path); e != api.OK || f != api.OK || !equal(part, c.by(c.most)) {
			t.Errorf("%s: %v, %v", name, e, f)
		}
		if got, e := algebra.Replace(b, c.r, c.path, c.by(c.most+1)); e != api.ErrLarge || !isZero(got) {
			t.Errorf("%s, one more: %v", name, e)
		}
	}
}

// TestReplaceOfNulls has parts whose nulls are others, which changes what is around.
func TestReplaceOfNulls(t *testing.T) {
	b := shopBase()
	for _, c := range []struct {
		rel  string
		path []int
		want string
	}{
		{"apply(1, inner, leaf(1; int; ), map(^1.0, scan(t)))", []int{0}, "int? int?"},
		{"both(leaf(1; int; ), values(int?; (1)))", []int{0}, "int?"},
		{"join(left, true, leaf(1; int; ), scan(t))", []int{0}, "int? int? int?"},
		{"filter(in(1, 1, map(^1.0, scan(u))), leaf(1; int; ))", []int{0}, "int?"},
	} {
		got, e := algebra.Replace(b, read(c.rel), c.path, leaf(1, "int?"))
		if e != api.OK {
			t.Errorf("%s: %v", c.rel, e)
		}
		if cols, e := algebra.Cols(b, got); shown(cols) != c.want || e != api.OK {
			t.Errorf("%s: %s, %v", c.rel, shown(cols), e)
		}
	}
}

// TestReplaceWithOuterRows puts what is not closed where several outer rows are.
func TestReplaceWithOuterRows(t *testing.T) {
	b := shopBase()
	r := read("apply(1, inner, scan(t), apply(2, semi, filter(eq(^1.0, 1), scan(u)), apply(1, left, map($0, scan(u)), scan(v))))")
	for _, c := range []struct {
		path []int
		of   string
		want api.Errno
	}{
		{[]int{1, 0}, "eq(^1.0, 1)", api.OK},
		{[]int{1, 0}, "eq(^1.1, 1)", api.OK},
		{[]int{1, 0}, "^2.1", api.ErrRel},
		{[]int{1, 1, 0}, "^2.1", api.OK},
		{[]int{1, 1, 0}, "eq(^1.1, 1)", api.OK},
		{[]int{1, 1, 0}, "eq(^1.0, 'x')", api.ErrRel},
		{[]int{1, 1, 1}, "eq(^1.0, 'x')", api.OK}, // the innermost row 1 here
		{[]int{1, 1, 1}, "eq(^1.0, 1)", api.ErrRel},
		{[]int{1, 1, 1}, "eq(^1.1, 1)", api.ErrRel},
		{[]int{1, 1, 1}, "^2.1", api.OK},
		{[]int{0}, "eq(^1.0, 1)", api.ErrRel},
	} {
		part, e := algebra.At(b, r, c.path)
		if e != api.OK {
			t.Fatalf("%v: %v", c.path, e)
		}
		got, e := algebra.Replace(b, r, c.path, filter(ex(c.of), part))
		if e != c.want || (e == api.OK) == isZero(got) {
			t.Errorf("%v, %s: %v, %v", c.path, c.of, got, e)
		}
	}
}
