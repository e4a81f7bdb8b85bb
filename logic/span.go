package logic

import (
	"math"
	"slices"

	"tactician/api"
	"tactician/value"
)

// comparison is what a conjunct says of a column: that it compares by op with a value.
type comparison struct {
	col   int
	op    api.Op
	value api.Value
}

// compared returns what e says of a column; false if it is no comparison of one with a literal.
func compared(e api.Expr) (comparison, bool) {
	switch {
	case isCol(e):
		return comparison{e.N, api.OEq, truth(true)}, true
	case e.Op == api.ONot && isCol(e.Args[0]):
		return comparison{e.Args[0].N, api.OEq, truth(false)}, true
	case isComparison(e.Op) && isCol(e.Args[0]) && isLiteral(e.Args[1]) && e.Args[1].Lit.Kind != api.Null:
		return comparison{e.Args[0].N, e.Op, e.Args[1].Lit}, true
	}
	return comparison{}, false
}

// closed returns c so that OLt and OGt of a number become OLe and OGe; false if there is no such number.
func (c comparison) closed() (comparison, bool) {
	switch {
	case c.value.Kind != api.Int:
	case c.op == api.OLt && c.value.Int == math.MinInt64, c.op == api.OGt && c.value.Int == math.MaxInt64:
		return comparison{}, false
	case c.op == api.OLt:
		c.op, c.value.Int = api.OLe, c.value.Int-1
	case c.op == api.OGt:
		c.op, c.value.Int = api.OGe, c.value.Int+1
	}
	return c, true
}

// bound is where a range ends; strict: ahead of the value.
type bound struct {
	value  api.Value
	strict bool
}

// isBelow tells whether an upper bound lets through only what the upper bound b does, too.
func (a bound) isBelow(b bound) bool {
	n := compare(a.value, b.value)
	return n < 0 || n == 0 && (a.strict || !b.strict)
}

// isAbove is isBelow for lower bounds.
func (a bound) isAbove(b bound) bool {
	n := compare(a.value, b.value)
	return n > 0 || n == 0 && (a.strict || !b.strict)
}

// span is the range of a column: its bounds, if they are there, and the values that are taken out.
type span struct {
	lower, upper *bound
	out          []api.Value
	none         bool // there is no number that a comparison asks for
}

// narrow takes from s what is not as c says.
func (s *span) narrow(c comparison) {
	c, ok := c.closed()
	if !ok {
		s.none = true
		return
	}
	b := bound{c.value, c.op == api.OLt || c.op == api.OGt}
	if c.op == api.ONe {
		s.out = append(s.out, c.value)
	}
	if c.op == api.OEq || c.op == api.OGt || c.op == api.OGe {
		s.raise(b)
	}
	if c.op == api.OEq || c.op == api.OLt || c.op == api.OLe {
		s.drop(b)
	}
}

func (s *span) raise(b bound) {
	if s.lower == nil || b.isAbove(*s.lower) {
		s.lower = &b
	}
}

func (s *span) drop(b bound) {
	if s.upper == nil || b.isBelow(*s.upper) {
		s.upper = &b
	}
}

func (s *span) isEmpty() bool {
	if s.none {
		return true
	}
	if s.lower == nil || s.upper == nil {
		return false
	}
	n := compare(s.lower.value, s.upper.value)
	return n > 0 || n == 0 && (s.lower.strict || s.upper.strict || slices.Contains(s.out, s.lower.value))
}

// liesIn tells whether all values of s, which is not empty, are as c says.
func (s *span) liesIn(c comparison) bool {
	c, ok := c.closed()
	if !ok {
		return false
	}
	b := bound{c.value, c.op == api.OLt || c.op == api.OGt}
	above := s.lower != nil && s.lower.isAbove(b)
	below := s.upper != nil && s.upper.isBelow(b)
	switch c.op {
	case api.OEq:
		return above && below // as s is not empty, both are the value
	case api.ONe:
		return !s.has(c.value)
	case api.OLt, api.OLe:
		return below
	}
	return above
}

// has tells whether v is in s.
func (s *span) has(v api.Value) bool {
	b := bound{value: v}
	return (s.lower == nil || b.isAbove(*s.lower)) && (s.upper == nil || b.isBelow(*s.upper)) && !slices.Contains(s.out, v)
}

func compare(a, b api.Value) int {
	n, _ := value.Compare(a, b)
	return n
}
