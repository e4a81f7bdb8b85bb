package algebra_test

import (
	"reflect"
	"testing"

	"tactician/algebra"
	"tactician/api"
)

// R4: arguments are neither changed nor kept, what lies behind them is not read, and results are new memory.

// span is the memory of a list.
type span struct{ from, to uintptr }

// spans returns the memory of all lists in x, up to their capacities.
func spans(x any) []span {
	var out []span
	var walk func(v reflect.Value)
	walk = func(v reflect.Value) {
		switch v.Kind() {
		case reflect.Slice:
			if v.Cap() > 0 {
				out = append(out, span{v.Pointer(), v.Pointer() + uintptr(v.Cap())*v.Type().Elem().Size()})
			}
			for i := range v.Len() {
				walk(v.Index(i))
			}
		case reflect.Struct:
			for i := range v.NumField() {
				walk(v.Field(i))
			}
		}
	}
	walk(reflect.ValueOf(x))
	return out
}

// share tells whether two lists share memory.
func share(l []span) bool {
	for i, a := range l {
		for _, b := range l[:i] {
			if a.from < b.to && b.from < a.to {
				return true
			}
		}
	}
	return false
}

// widened copies x so that there is something behind the end of each list.
func widened[T any](x T) T {
	var walk func(v reflect.Value) reflect.Value
	walk = func(v reflect.Value) reflect.Value {
		out := reflect.New(v.Type()).Elem()
		switch v.Kind() {
		case reflect.Slice:
			list := reflect.MakeSlice(v.Type(), v.Len()+1, v.Len()+1)
			for i := range v.Len() {
				list.Index(i).Set(walk(v.Index(i)))
			}
			list.Index(v.Len()).Set(junk(v.Type().Elem()))
			return list.Slice(0, v.Len())
		case reflect.Struct:
			for i := range v.NumField() {
				out.Field(i).Set(walk(v.Field(i)))
			}
			return out
		}
		out.Set(v)
		return out
	}
	return walk(reflect.ValueOf(x)).Interface().(T)
}

// junk is a value of a type that would be noticed.
func junk(t reflect.Type) reflect.Value {
	out := reflect.New(t).Elem()
	switch t.Kind() {
	case reflect.Int, reflect.Int64:
		out.SetInt(-7)
	case reflect.String:
		out.SetString("behind")
	case reflect.Bool:
		out.SetBool(true)
	case reflect.Struct:
		for i := range t.NumField() {
			out.Field(i).Set(junk(t.Field(i).Type))
		}
	}
	return out
}

// whole copies x with what lies behind the ends of its lists.
func whole[T any](x T) T {
	var walk func(v reflect.Value) reflect.Value
	walk = func(v reflect.Value) reflect.Value {
		out := reflect.New(v.Type()).Elem()
		switch v.Kind() {
		case reflect.Slice:
			v = v.Slice(0, v.Cap())
			list := reflect.MakeSlice(v.Type(), v.Len(), v.Len())
			for i := range v.Len() {
				list.Index(i).Set(walk(v.Index(i)))
			}
			return list
		case reflect.Struct:
			for i := range v.NumField() {
				out.Field(i).Set(walk(v.Field(i)))
			}
			return out
		}
		out.Set(v)
		return out
	}
	return walk(reflect.ValueOf(x)).Interface().(T)
}

// allOfIt has each operation, and each list of relations and expressions.
const allOfIt = "apply(1, left, union(map($0, one(2, map(^2.1, values(int int; (1, 2) (3, 4)))), scan(t)), leaf(3; int int?; [0] [0 1])), " +
	"join(left, and(true, in(3, $0, exists(4, scan(u)), map(^1.0, true, scan(v)))), group([0], count, sum(distinct $1), sort([1- 0], 1, 2, scan(t))), " +
	"both(all, minus(scan(u), scan(u)), filter(eq($0, 'x'), values(text bool?; ('y', null))))))"

func TestMemory(t *testing.T) {
	b, r, by := widened(shopBase()), widened(read(allOfIt)), widened(read("union(scan(t), values(int int?; (1, null)))"))
	path := widened([]int{0, 1})
	before := []any{whole(b), whole(r), whole(by), whole(path)}
	wide := widened(filter(ex("eq($0, 1)"), values("int int?", "(1, 2)\n")))
	results := map[string]func() (any, api.Errno){
		"Check":             func() (any, api.Errno) { return 0, algebra.Check(b, r) },
		"Cols":              func() (any, api.Errno) { l, e := algebra.Cols(b, r); return l, e },
		"Cols of a scan":    func() (any, api.Errno) { l, e := algebra.Cols(b, scan("t")); return l, e },
		"Cols of values":    func() (any, api.Errno) { l, e := algebra.Cols(b, wide); return l, e },
		"Cols of a leaf":    func() (any, api.Errno) { l, e := algebra.Cols(b, r.Ins[0].Ins[1]); return l, e },
		"Plain":             func() (any, api.Errno) { is, e := algebra.Plain(b, r); return is, e },
		"Scans":             func() (any, api.Errno) { l, e := algebra.Scans(b, r); return l, e },
		"Leaves":            func() (any, api.Errno) { l, e := algebra.Leaves(b, r); return l, e },
		"Nodes":             func() (any, api.Errno) { n, e := algebra.Nodes(b, r); return n, e },
		"At the root":       func() (any, api.Errno) { x, e := algebra.At(b, r, nil); return x, e },
		"At":                func() (any, api.Errno) { x, e := algebra.At(b, r, path); return x, e },
		"Replace the root":  func() (any, api.Errno) { x, e := algebra.Replace(b, wide, nil, by); return x, e },
		"Replace":           func() (any, api.Errno) { x, e := algebra.Replace(b, r, path, by); return x, e },
		"Replace by a part": func() (any, api.Errno) { x, e := algebra.Replace(b, r, path, r.Ins[0]); return x, e },
		"Same":              func() (any, api.Errno) { is, e := algebra.Same(b, r, by); return is, e },
		"String":            func() (any, api.Errno) { s, e := algebra.String(b, r); return s, e },
		"Parse":             func() (any, api.Errno) { x, e := algebra.Parse(b, allOfIt); return x, e },
	}
	plain := map[string]any{}
	for name, f := range results {
		first, e := f()
		second, g := f()
		if e != api.OK || g != api.OK || !equal(first, second) {
			t.Errorf("%s: %v, %v", name, e, g)
		}
		var all []span
		for _, x := range []any{b, r, by, path, wide, first, second} {
			all = append(all, spans(x)...)
		}
		if share(all) {
			t.Errorf("%s: two lists share memory", name)
		}
		plain[name] = first
	}
	for i, x := range []any{whole(b), whole(r), whole(by), whole(path)} {
		if !reflect.DeepEqual(x, before[i]) {
			t.Errorf("the arguments have changed: %v", x)
		}
	}
	// Without something behind the lists it is the same.
	b, r, by, path = shopBase(), read(allOfIt), read("union(scan(t), values(int int?; (1, null)))"), []int{0, 1}
	wide = filter(ex("eq($0, 1)"), values("int int?", "(1, 2)\n"))
	for name, f := range results {
		if got, _ := f(); !equal(got, plain[name]) {
			t.Errorf("%s: %v, not %v", name, got, plain[name])
		}
	}
}
