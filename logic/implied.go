package logic

import (
	"maps"
	"slices"

	"tactician/api"
	"tactician/scalar"
)

// pinned returns the column and the value that a conjunct fixes; false if it fixes none.
func pinned(e api.Expr) (Pin, bool) {
	if c, ok := compared(e); ok {
		return Pin{c.col, c.value}, c.op == api.OEq
	}
	switch {
	case e.Op == api.OIsNull && isCol(e.Args[0]):
		return Pin{Col: e.Args[0].N}, true
	case e.Op == api.OSame && isCol(e.Args[0]) && isLiteral(e.Args[1]):
		return Pin{e.Args[0].N, e.Args[1].Lit}, true
	case e.Op == api.OSame && isLiteral(e.Args[0]) && isCol(e.Args[1]):
		return Pin{e.Args[1].N, e.Args[0].Lit}, true
	}
	return Pin{}, false
}

// classes returns the classes that the conjuncts l make of n columns.
func classes(l []api.Expr, n int) [][]int {
	of := map[int][]int{} // the class of a column, by the first column in it
	first := make([]int, n)
	for i := range n {
		of[i], first[i] = []int{i}, i
	}
	for _, e := range l {
		if e.Op != api.OEq || !isCol(e.Args[0]) || !isCol(e.Args[1]) {
			continue
		}
		a, b := first[e.Args[0].N], first[e.Args[1].N]
		if a == b {
			continue
		}
		a, b = min(a, b), max(a, b)
		for _, c := range of[b] {
			first[c] = a
		}
		of[a] = append(of[a], of[b]...)
		delete(of, b)
	}
	var out [][]int
	for _, a := range slices.Sorted(maps.Keys(of)) {
		if len(of[a]) > 1 {
			out = append(out, slices.Sorted(slices.Values(of[a])))
		}
	}
	return out
}

func isCol(e api.Expr) bool {
	return e.Op == api.OCol
}

// knowledge is what is known by conjuncts.
type knowledge struct {
	conjuncts []api.Expr
	cols      []api.Col
	spans     map[int]*span // of the columns that they compare
}

func knowing(conjuncts []api.Expr, cols []api.Col) knowledge {
	k := knowledge{conjuncts, cols, map[int]*span{}}
	for _, e := range conjuncts {
		if c, ok := compared(e); ok {
			if k.spans[c.col] == nil {
				k.spans[c.col] = &span{}
			}
			k.spans[c.col].narrow(c)
		}
	}
	return k
}

// isNever tells whether it cannot be true, as far as its ranges and literals say.
func (k knowledge) isNever() bool {
	for _, s := range k.spans {
		if s.isEmpty() {
			return true
		}
	}
	return slices.ContainsFunc(k.conjuncts, func(e api.Expr) bool { return isLit(e, truth(false)) })
}

func (k knowledge) impliesAll(l []api.Expr) bool {
	return !slices.ContainsFunc(l, func(e api.Expr) bool { return !k.implies(e) })
}

// implies tells whether the conjunct e is implied. No range is empty.
func (k knowledge) implies(e api.Expr) bool {
	if isLit(e, truth(true)) || slices.ContainsFunc(k.conjuncts, func(x api.Expr) bool { return equal(x, e) }) {
		return true
	}
	if c, ok := compared(e); ok {
		s := k.spans[c.col]
		return s != nil && s.liesIn(c)
	}
	if e.Op == api.ONot && e.Args[0].Op == api.OIsNull && isCol(e.Args[0].Args[0]) {
		return k.rejects(e.Args[0].Args[0].N)
	}
	return e.Op == api.OOr && slices.ContainsFunc(e.Args, func(a api.Expr) bool {
		l, _ := scalar.Conjuncts(a)
		return k.impliesAll(l)
	})
}

// rejects tells whether one of the conjuncts rejects null in the column n.
func (k knowledge) rejects(n int) bool {
	return slices.ContainsFunc(k.conjuncts, func(e api.Expr) bool {
		is, _ := Rejects(e, k.cols, []int{n})
		return is
	})
}
