// Package value is layer 1: the values of relations, their order, their strings, and truth with null.
package value

import (
	"cmp"
	"slices"
	"strconv"
	"strings"

	"tactician/api"
)

// words has, for each kind, the words of those of its values that are written as one, at their Int.
var words = [4][2]string{
	api.Null: {"null"},
	api.Bool: {"false", "true"},
}

// Check returns OK if v is a value.
func Check(v api.Value) api.Errno {
	return check(v)
}

// Compare returns -1, 0 or 1 as a comes before b in the order of values, is the same, or comes after it.
func Compare(a, b api.Value) (int, api.Errno) {
	if e := check(a, b); e != api.OK {
		return 0, e
	}
	return compare(a, b), api.OK
}

// String returns the string of v.
func String(v api.Value) (string, api.Errno) {
	if e := check(v); e != api.OK {
		return "", e
	}
	switch v.Kind {
	case api.Int:
		return strconv.FormatInt(v.Int, 10), api.OK
	case api.Text:
		return "'" + strings.ReplaceAll(v.Text, "'", "''") + "'", api.OK
	}
	return words[v.Kind][v.Int], api.OK
}

// Parse returns the value whose string s is.
func Parse(s string) (api.Value, api.Errno) {
	if len(s) > api.MaxString {
		return api.Value{}, api.ErrLarge
	}
	v := read(s)
	// Writing it again finds all that read lets through: zeros in front, +1, -0, a quote that stands alone, texts that are none.
	if back, e := String(v); e != api.OK || back != s {
		return api.Value{}, api.ErrValue
	}
	return v, api.OK
}

// Sorted returns the values of l, rising.
func Sorted(l []api.Value) ([]api.Value, api.Errno) {
	if e := check(l...); e != api.OK {
		return nil, e
	}
	return sortedBy(l, compare), api.OK
}

// Distinct returns each different value of l once, rising.
func Distinct(l []api.Value) ([]api.Value, api.Errno) {
	if e := check(l...); e != api.OK {
		return nil, e
	}
	return once(sortedBy(l, compare)), api.OK
}

// And returns false if one of l is false; otherwise null if one is null; otherwise true.
func And(l []api.Value) (api.Value, api.Errno) {
	return joined(truth(false), l...)
}

// Or returns true if one of l is true; otherwise null if one is null; otherwise false.
func Or(l []api.Value) (api.Value, api.Errno) {
	return joined(truth(true), l...)
}

// Not returns true for false, false for true, and null for null.
func Not(v api.Value) (api.Value, api.Errno) {
	if e := checkTruth(v); e != api.OK {
		return api.Value{}, e
	}
	return opposite(v), api.OK
}

// check returns the error that the values of a call have, whatever the call does with them.
func check(l ...api.Value) api.Errno {
	if len(l) > api.MaxRows {
		return api.ErrLarge
	}
	for _, v := range l {
		if !isValue(v) {
			return api.ErrValue
		}
	}
	return api.OK
}

// checkTruth is check for calls that take only Bool and null.
func checkTruth(l ...api.Value) api.Errno {
	if e := check(l...); e != api.OK {
		return e
	}
	for _, v := range l {
		if v.Kind != api.Bool && v.Kind != api.Null {
			return api.ErrArg
		}
	}
	return api.OK
}

func isValue(v api.Value) bool {
	switch v.Kind {
	case api.Null:
		return v.Int == 0 && v.Text == ""
	case api.Int:
		return v.Text == ""
	case api.Bool:
		return (v.Int == 0 || v.Int == 1) && v.Text == ""
	case api.Text:
		return v.Int == 0 && isText(v.Text)
	}
	return false
}

func isText(s string) bool {
	if len(s) > api.MaxText {
		return false
	}
	for i := range len(s) {
		if s[i] < 32 || s[i] > 126 {
			return false
		}
	}
	return true
}

func compare(a, b api.Value) int {
	if a.Kind != b.Kind {
		return cmp.Compare(a.Kind, b.Kind)
	}
	if a.Int != b.Int {
		return cmp.Compare(a.Int, b.Int)
	}
	return strings.Compare(a.Text, b.Text)
}

// read returns the value whose string s is, if there is one; otherwise anything.
func read(s string) api.Value {
	for kind, list := range words {
		if at := slices.Index(list[:], s); at >= 0 {
			return api.Value{Kind: api.Kind(kind), Int: int64(at)}
		}
	}
	if inner, ok := strings.CutPrefix(s, "'"); ok {
		inner = strings.TrimSuffix(inner, "'")
		return api.Value{Kind: api.Text, Text: strings.ReplaceAll(inner, "''", "'")}
	}
	n, _ := strconv.ParseInt(s, 10, 64)
	return api.Value{Kind: api.Int, Int: n}
}

// sortedBy returns the elements of l in a new list, rising by order.
func sortedBy[T any](l []T, order func(a, b T) int) []T {
	out := slices.Clone(l)
	slices.SortFunc(out, order)
	return out
}

// once leaves of each run of equal elements the first one; it uses the memory of l.
func once[T comparable](l []T) []T {
	n := 0
	for i, x := range l {
		if i == 0 || x != l[n-1] {
			l[n] = x
			n++
		}
	}
	return l[:n]
}

func truth(is bool) api.Value {
	if is {
		return api.Value{Kind: api.Bool, Int: 1}
	}
	return api.Value{Kind: api.Bool}
}

// opposite takes a Bool or null.
func opposite(v api.Value) api.Value {
	if v.Kind == api.Null {
		return v
	}
	return truth(v.Int == 0)
}

// joined is the truth of many: And and Or differ only in the value of which one is enough.
func joined(enough api.Value, l ...api.Value) (api.Value, api.Errno) {
	if e := checkTruth(l...); e != api.OK {
		return api.Value{}, e
	}
	out := opposite(enough)
	for _, v := range l {
		if v == enough {
			return enough, api.OK
		}
		if v.Kind == api.Null {
			out = v
		}
	}
	return out, api.OK
}
