package meaning_test

import (
	"reflect"
	"testing"

	"tactician/api"
	"tactician/meaning"
)

// R4: arguments are neither changed nor kept, what lies behind them is not read, and results are new memory.

// span is the memory of a list.
type span struct{ from, to uintptr }

// spans returns the memory of all lists in x, up to their capacities.
func spans(x any) []span {
	var out []span
	var walk func(v reflect.Value)
	walk = func(v reflect.Value) {
		switch v.Kind() {
		case reflect.Slice:
			if v.Cap() > 0 {
				out = append(out, span{v.Pointer(), v.Pointer() + uintptr(v.Cap())*v.Type().Elem().Size()})
			}
			for i := range v.Len() {
				walk(v.Index(i))
			}
		case reflect.Struct:
			for i := range v.NumField() {
				walk(v.Field(i))
			}
		}
	}
	walk(reflect.ValueOf(x))
	return out
}

// share tells whether two lists share memory.
func share(l []span) bool {
	for i, a := range l {
		for _, b := range l[:i] {
			if a.from < b.to && b.from < a.to {
				return true
			}
		}
	}
	return false
}

// widened copies x so that there is something behind the end of each list.
func widened[T any](x T) T {
	var walk func(v reflect.Value) reflect.Value
	walk = func(v reflect.Value) reflect.Value {
		out := reflect.New(v.Type()).Elem()
		switch v.Kind() {
		case reflect.Slice:
			list := reflect.MakeSlice(v.Type(), v.Len()+1, v.Len()+1)
			for i := range v.Len() {
				list.Index(i).Set(walk(v.Index(i)))
			}
			list.Index(v.Len()).Set(junk(v.Type().Elem()))
			return list.Slice(0, v.Len())
		case reflect.Struct:
			for i := range v.NumField() {
				out.Field(i).Set(walk(v.Field(i)))
			}
			return out
		}
		out.Set(v)
		return out
	}
	return walk(reflect.ValueOf(x)).Interface().(T)
}

// junk is a value of a type that would be noticed.
func junk(t reflect.Type) reflect.Value {
	out := reflect.New(t).Elem()
	switch t.Kind() {
	case reflect.Int, reflect.Int64:
		out.SetInt(-7)
	case reflect.String:
		out.SetString("behind")
	case reflect.Bool:
		out.SetBool(true)
	case reflect.Struct:
		for i := range t.NumField() {
			out.Field(i).Set(junk(t.Field(i).Type))
		}
	}
	return out
}

// whole copies x with what lies behind the ends of its lists.
func whole[T any](x T) T {
	var walk func(v reflect.Value) reflect.Value
	walk = func(v reflect.Value) reflect.Value {
		out := reflect.New(v.Type()).Elem()
		switch v.Kind() {
		case reflect.Slice:
			v = v.Slice(0, v.Cap())
			list := reflect.MakeSlice(v.Type(), v.Len(), v.Len())
			for i := range v.Len() {
				list.Index(i).Set(walk(v.Index(i)))
			}
			return list
		case reflect.Struct:
			for i := range v.NumField() {
				out.Field(i).Set(walk(v.Field(i)))
			}
			return out
		}
		out.Set(v)
		return out
	}
	return walk(reflect.ValueOf(x)).Interface().(T)
}

// allOfIt has each operation, and each list of relations and expressions.
const allOfIt = "apply(1, left, union(map($0, one(2, map(^2.1, values(int int; (1, 2) (3, 4)))), scan(t)), leaf(1; int int?; [0] [0 1])), " +
	"join(left, and(true, in(3, $0, exists(4, scan(u)), map(^1.0, true, scan(u)))), group([0], count, sum(distinct $1), sort([1- 0], 1, 2, scan(t))), " +
	"both(all, minus(scan(u), scan(u)), filter(eq($0, 'x'), values(text bool?; ('y', null))))))"

func TestMemory(t *testing.T) {
	rels := map[string]string{
		"all of it": allOfIt, "scan": "scan(t)", "sorted scan": "sort([1-], 0, 2, scan(t))", "values": "values(int; (2) (1) (1))",
		"sorted values": "sort([0-], 1, -1, values(int; (2) (1) (1)))", "leaf": "leaf(1; int int?; [0])", "sorted leaf": "sort([0-], 0, -1, leaf(1; int int?; [0]))",
		"twice": "union(scan(t), scan(t))", "sorted twice": "sort([], 0, -1, union(scan(t), leaf(1; int int?; ), scan(t)))",
		"semi": "join(semi, true, scan(t), scan(n))", "left": "join(left, false, scan(t), scan(n))", "sorted full": "sort([], 0, -1, join(full, false, scan(t), scan(t)))",
		"literals": "map('x', $0, scan(t))", "both": "both(all, scan(n), scan(n))", "groups": "sort([0], 0, -1, group([0], only($0), scan(n)))",
	}
	for name, s := range rels {
		b, d, r, leaves := widened(shopBase()), widened(shopData()), widened(read(s)), widened([][][]api.Value{nil, list("7, 8; 9, null")})
		before := []any{whole(b), whole(d), whole(r), whole(leaves)}
		var all []any
		for range 2 {
			l, e := meaning.Given(b, d, leaves, r)
			if e != api.OK || len(l) == 0 {
				t.Errorf("%s: %v, %v", name, l, e)
			}
			all = append(all, l)
			if l, e := meaning.Result(b, d, r); e == api.OK {
				all = append(all, l)
			}
			if l, e := meaning.Bag(b, d, r); e == api.OK {
				all = append(all, l)
			}
			if is, e := meaning.Alike(b, d, r, r); is != (e == api.OK) {
				t.Errorf("%s: not alike, %v", name, e)
			}
		}
		var memory []span
		for _, x := range append(all, b, d, r, leaves) {
			memory = append(memory, spans(x)...)
		}
		if share(memory) {
			t.Errorf("%s: two lists share memory", name)
		}
		for i, x := range []any{whole(b), whole(d), whole(r), whole(leaves)} {
			if !reflect.DeepEqual(x, before[i]) {
				t.Errorf("%s: the arguments have changed: %v", name, x)
			}
		}
		// Without something behind the lists it is the same.
		l, e := meaning.Given(shopBase(), shopData(), [][][]api.Value{nil, list("7, 8; 9, null")}, read(s))
		if !reflect.DeepEqual(l, all[0]) || e != api.OK {
			t.Errorf("%s: %v, %v, not %v", name, l, e, all[0])
		}
	}
}

// TestMemoryOfAsk is the same for Ask.
func TestMemoryOfAsk(t *testing.T) {
	for _, s := range []string{"in(1, $0, add($0, 1), filter(eq($0, ^1.0), scan(t)))", "and(true, exists(1, filter(eq($0, ^1.0), values(int; (7)))))", "coalesce(null:bool, eq($0, 7))"} {
		cols, row := columns("int int"), list("7, 8")[0]
		want, _ := meaning.Ask(shopBase(), shopData(), readExpr(s, "int int"), cols, row)
		b, d, e := widened(shopBase()), widened(shopData()), widened(readExpr(s, "int int"))
		cols, row = widened(cols), widened(row)
		before := []any{whole(b), whole(d), whole(e), whole(cols), whole(row)}
		if got, f := meaning.Ask(b, d, e, cols, row); got != want || f != api.OK {
			t.Errorf("%s: %v, %v, not %v", s, got, f, want)
		}
		for i, x := range []any{whole(b), whole(d), whole(e), whole(cols), whole(row)} {
			if !reflect.DeepEqual(x, before[i]) {
				t.Errorf("%s: the arguments have changed: %v", s, x)
			}
		}
	}
}
