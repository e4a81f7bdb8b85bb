package syntax_test

import (
	"reflect"
	"testing"

	"tactician/api"
	"tactician/syntax"
)

// R4: arguments are neither changed nor kept, what lies behind them is not read, and results are new memory.

// lists calls f for each list in v, from the outside to the inside.
func lists(v reflect.Value, f func(v reflect.Value)) {
	switch v.Kind() {
	case reflect.Slice:
		f(v)
		for i := range v.Len() {
			lists(v.Index(i), f)
		}
	case reflect.Struct:
		for i := range v.NumField() {
			lists(v.Field(i), f)
		}
	}
}

// share tells whether two lists of these trees share memory, up to their capacities.
func share(trees ...Query) bool {
	type span struct{ from, to uintptr }
	var all []span
	for _, q := range trees {
		lists(reflect.ValueOf(q), func(v reflect.Value) {
			if v.Cap() > 0 {
				all = append(all, span{v.Pointer(), v.Pointer() + uintptr(v.Cap())*v.Type().Elem().Size()})
			}
		})
	}
	for i, a := range all {
		for _, b := range all[:i] {
			if a.from < b.to && b.from < a.to {
				return true
			}
		}
	}
	return false
}

// widened is q in new memory, with one more element behind the end of each list.
func widened(q Query) Query {
	q = copied(q)
	lists(reflect.ValueOf(&q).Elem(), func(v reflect.Value) {
		wide := reflect.MakeSlice(v.Type(), v.Len()+1, v.Len()+1)
		reflect.Copy(wide, v)
		if v.Len() > 0 {
			wide.Index(v.Len()).Set(v.Index(0))
		}
		v.Set(wide.Slice(0, v.Len()))
	})
	return q
}

func TestMemory(t *testing.T) {
	for i, q := range samples(t) {
		again := samples(t)[i]
		if share(q, again) {
			t.Errorf("%s: lists share memory", shown(q))
		}
		want, e := syntax.String(q)
		if e != api.OK {
			t.Fatal(e)
		}
		wide := widened(q)
		behind := shown(whole(wide))
		if got, e := syntax.String(wide); got != want || e != api.OK {
			t.Errorf("%s: %s, %v", want, got, e)
		}
		if !syntax.Same(wide, q) || !syntax.Same(q, wide) {
			t.Errorf("%s: not the same", want)
		}
		if shown(wide) != shown(q) || shown(whole(wide)) != behind {
			t.Errorf("%s: the argument is changed", want)
		}
		wide.Limit = 5 // what is done to a tree later changes no other
		if syntax.Same(wide, q) || syntax.Same(again, wide) || !syntax.Same(again, q) {
			t.Errorf("%s: changed from outside", want)
		}
	}
}
