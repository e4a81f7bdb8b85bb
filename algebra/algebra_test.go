package algebra_test

import (
	"reflect"
	"slices"
	"testing"

	"tactician/algebra"
	"tactician/api"
)

// equal tells whether a and b are equal data, empty lists and nil being the same.
func equal[T any](a, b T) bool { return equalValues(reflect.ValueOf(a), reflect.ValueOf(b)) }

func equalValues(a, b reflect.Value) bool {
	switch a.Kind() {
	case reflect.Slice:
		if a.Len() != b.Len() {
			return false
		}
		for i := range a.Len() {
			if !equalValues(a.Index(i), b.Index(i)) {
				return false
			}
		}
		return true
	case reflect.Struct:
		for i := range a.NumField() {
			if !equalValues(a.Field(i), b.Field(i)) {
				return false
			}
		}
		return true
	}
	return a.Equal(b)
}

func isZero[T any](x T) bool {
	var zero T
	return equal(x, zero)
}

// result is what a call returns, as one value, and the error.
type result struct {
	value any
	zero  bool
	e     api.Errno
}

func of[T any](x T, e api.Errno) result { return result{x, isZero(x), e} }

// calls are all that take a relation, each with that alone.
var calls = map[string]func(b api.Base, r api.Rel) result{
	"Check":                 func(b api.Base, r api.Rel) result { return of(0, algebra.Check(b, r)) },
	"Cols":                  func(b api.Base, r api.Rel) result { return of(algebra.Cols(b, r)) },
	"Plain":                 func(b api.Base, r api.Rel) result { return of(algebra.Plain(b, r)) },
	"Scans":                 func(b api.Base, r api.Rel) result { return of(algebra.Scans(b, r)) },
	"Leaves":                func(b api.Base, r api.Rel) result { return of(algebra.Leaves(b, r)) },
	"Nodes":                 func(b api.Base, r api.Rel) result { return of(algebra.Nodes(b, r)) },
	"At":                    func(b api.Base, r api.Rel) result { return of(algebra.At(b, r, nil)) },
	"At nowhere":            func(b api.Base, r api.Rel) result { return of(algebra.At(b, r, []int{9})) },
	"Replace":               func(b api.Base, r api.Rel) result { return of(algebra.Replace(b, r, nil, scan("t"))) },
	"Replace nowhere":       func(b api.Base, r api.Rel) result { return of(algebra.Replace(b, r, []int{9}, scan("t"))) },
	"Replace by none":       func(b api.Base, r api.Rel) result { return of(algebra.Replace(b, r, nil, scan("w"))) },
	"Replace by another":    func(b api.Base, r api.Rel) result { return of(algebra.Replace(b, r, nil, scan("u"))) },
	"Same, first":           func(b api.Base, r api.Rel) result { return of(algebra.Same(b, r, scan("t"))) },
	"Same, second":          func(b api.Base, r api.Rel) result { return of(algebra.Same(b, scan("t"), r)) },
	"Same, neither":         func(b api.Base, r api.Rel) result { return of(algebra.Same(b, r, r)) },
	"String":                func(b api.Base, r api.Rel) result { return of(algebra.String(b, r)) },
	"Parse (of what is no)": func(b api.Base, _ api.Rel) result { return of(algebra.Parse(b, "scan(w)")) },
}

// TestOrderOfErrors: ErrBase before all others, then ErrRel of the relation, with nothing beside it (rules R1 to R3).
func TestOrderOfErrors(t *testing.T) {
	long := api.Rel{Op: api.RValues, Cols: columns("int"), Rows: copies(api.MaxRows+1, []api.Value{number(1)})}
	for name, f := range calls {
		for _, r := range []api.Rel{scan("t"), {}, scan("w"), filter(outerOf(1, 0), scan("t")), long, deepRel(api.MaxDepth + 1)} {
			if got := f(noBase(), r); got.e != api.ErrBase || !got.zero {
				t.Errorf("%s of %v on no base: %v", name, r.Op, got)
			}
			if r.Name == "t" {
				continue
			}
			if got := f(shopBase(), r); got.e != api.ErrRel || !got.zero {
				t.Errorf("%s of %v: %v", name, r.Op, got)
			}
		}
	}
	if _, e := algebra.Parse(noBase(), string(make([]byte, api.MaxString+1))); e != api.ErrBase {
		t.Errorf("Parse of a long string on no base: %v", e)
	}
}

// TestSame: P6.3
func TestSame(t *testing.T) {
	b := shopBase()
	rels := []api.Rel{
		scan("t"), scan("u"), leaf(0, "int"), leaf(1, "int"), leaf(0, "int?"), leaf(0, "bool"), leaf(0, "int int"), leaf(0, "int", nil),
		leaf(0, "int", []int{0}), leaf(0, "int", []int{0}, nil), leaf(0, "int", nil, []int{0}),
		values("int", ""), values("int?", ""), values("int", "(1)\n"), values("int", "(2)\n"), values("int", "(1)\n(1)\n"), values("int?", "(1)\n"),
		values("int int", "(1, 2)\n"), values("int int", "(2, 1)\n"), values("text", "('a')\n"), values("text", "('b')\n"),
		filter(ex("true"), scan("t")), filter(ex("false"), scan("t")), filter(ex("true"), scan("u")), filter(ex("null:bool"), scan("t")),
		filter(ex("eq($0, 1)"), scan("t")), filter(ex("eq($1, 1)"), scan("t")), filter(ex("ne($1, 1)"), scan("t")), filter(ex("eq($1, 2)"), scan("t")),
		filter(ex("and(true, true)"), scan("t")), filter(ex("and(true, true, true)"), scan("t")), filter(ex("or(true, true)"), scan("t")),
		mapped(scan("t"), ex("$0")), mapped(scan("t"), ex("$1")), mapped(scan("t"), exs("$0", "$1")...), mapped(scan("t"), exs("$1", "$0")...),
		mapped(scan("t"), ex("null:int")), mapped(scan("t"), ex("null:text")), mapped(scan("t"), ex("'1'")), mapped(scan("t"), ex("1")),
		filter(exists(1, scan("u")), scan("t")), filter(exists(2, scan("u")), scan("t")), filter(exists(1, scan("v")), scan("t")),
		filter(exists(1, filter(outerOf(1, 0), scan("u"))), scan("t")), filter(exists(1, filter(outerOf(1, 1), scan("u"))), scan("t")),
		filter(in(1, wide(1), ex("$0")), scan("t")), filter(in(1, wide(1), ex("$1")), scan("t")), filter(in(1, wide(2), exs("$0", "$1")...), scan("t")),
		mapped(scan("t"), one(1, wide(1))), mapped(scan("t"), one(2, wide(1))),
		join(api.Inner, ex("true"), scan("t"), scan("t")), join(api.Left, ex("true"), scan("t"), scan("t")), join(api.Full, ex("true"), scan("t"), scan("t")),
		join(api.Semi, ex("true"), scan("t"), scan("t")), join(api.Anti, ex("true"), scan("t"), scan("t")), join(api.Inner, ex("true"), scan("t"), scan("u")),
		join(api.Inner, ex("true"), scan("u"), scan("t")), join(api.Inner, ex("false"), scan("t"), scan("t")),
		apply(1, api.Inner, scan("t"), scan("t")), apply(2, api.Inner, scan("t"), scan("t")), apply(1, api.Left, scan("t"), scan("t")),
		group(scan("t"), []int{0}), group(scan("t"), []int{1}), group(scan("t"), []int{0, 1}), group(scan("t"), nil, call(api.Count, 0)),
		group(scan("t"), nil, call(api.Some, 0)), group(scan("t"), nil, distinct(api.Some, 0)), group(scan("t"), nil, call(api.Some, 1)),
		group(scan("t"), nil, call(api.Count, 0), call(api.Some, 0)), group(scan("t"), nil, call(api.Some, 0), call(api.Count, 0)),
		union(scan("t"), scan("t")), union(scan("t"), scan("t"), scan("t")), both(false, scan("t"), scan("t")), both(true, scan("t"), scan("t")),
		minus(false, scan("t"), scan("t")), minus(true, scan("t"), scan("t")), minus(true, wide(2), scan("t")), minus(true, scan("t"), wide(2)),
		sorted(scan("t"), 0, -1), sorted(scan("t"), 1, -1), sorted(scan("t"), 0, 0), sorted(scan("t"), 0, 1), sorted(scan("t"), 0, -1, api.Key{}),
		sorted(scan("t"), 0, -1, api.Key{Desc: true}), sorted(scan("t"), 0, -1, api.Key{Col: 1}), sorted(scan("t"), 0, -1, api.Key{}, api.Key{Col: 1}),
		sorted(scan("t"), 0, -1, api.Key{Col: 1}, api.Key{}), sorted(scan("u"), 0, -1),
	}
	for i, r := range rels {
		for j, s := range rels {
			if is, e := algebra.Same(b, r, s); is != (i == j) || e != api.OK {
				t.Errorf("%v and %v: %v, %v", r, s, is, e)
			}
		}
	}
	none := scan("t")
	none.Cols, none.Exprs, none.Ins, none.Group = []api.Col{}, []api.Expr{}, []api.Rel{}, []int{}
	if is, e := algebra.Same(b, none, scan("t")); !is || e != api.OK {
		t.Errorf("empty lists: %v, %v", is, e)
	}
	noSets, empty := leaf(0, "int", nil), leaf(0, "int", []int{})
	if is, e := algebra.Same(b, noSets, empty); !is || e != api.OK {
		t.Errorf("an empty set: %v, %v", is, e)
	}
	e := exists(1, none)
	e.Args = []api.Expr{}
	if is, f := algebra.Same(b, filter(e, none), filter(exists(1, scan("t")), scan("t"))); !is || f != api.OK {
		t.Errorf("empty lists in an expression: %v, %v", is, f)
	}
	if got := slices.IndexFunc(rels, func(r api.Rel) bool { return algebra.Check(b, r) != api.OK }); got >= 0 {
		t.Errorf("no relation: %v", rels[got])
	}
}
