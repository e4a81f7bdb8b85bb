package syntax

import (
	"slices"
	"strings"

	"tactician/api"
	"tactician/token"
)

// deepest is how many nodes may be around one: a few more than there are in trees nested as deep as the promises go (2^16), so that
// what goes through a tree that contains itself comes to an end.
const deepest = 1<<16 + 1<<10

// place is where in a tree something is, when the tree is checked: whether it is one that a string has.
type place struct {
	nested int // how often it is nested, as the parser counts that
	around int // how many nodes are around it
}

// inner is the place of what is inside of that at this place, and nested so many times more.
func (at place) inner(times int) place {
	at.nested += times
	at.around++
	must(at.nested <= api.MaxDepth && at.around <= deepest)
	return at
}

// listed checks a list with commas, and its elements.
func listed[T any](l []T, least int, element func(T)) {
	must(len(l) >= least && len(l) <= api.MaxCols)
	for _, x := range l {
		element(x)
	}
}

func (at place) query(q Query) {
	must(isCut(q.Limit) && isCut(q.Offset))
	listed(q.Keys, 0, func(k Key) { must(isKey(k)) })
	at.body(q.Body)
}

func isCut(n int) bool {
	return n >= -1 && n <= api.MaxRows
}

func isKey(k Key) bool {
	if k.Name == "" {
		return k.At >= 1 && k.At <= api.MaxRows
	}
	return k.At == 0 && token.IsName(k.Name)
}

func isAlias(s string) bool {
	return s == "" || token.IsName(s)
}

func (at place) body(b Body) {
	must(b.Op >= Select && b.Op <= Sub && fieldsOfBody(b)&^bodyFields[b.Op] == 0)
	switch b.Op {
	case Select:
		at.selected(b)
	case Values:
		listed(b.Rows, 1, func(row []Node) { listed(row, 1, at.inner(1).node) })
	case Sub:
		must(len(b.Ins) == 1)
		at.inner(1).query(b.Ins[0])
	default:
		at.operands(b)
	}
}

func (at place) selected(b Body) {
	listed(b.Items, 1, at.item)
	listed(b.From, 0, at.source)
	must(len(b.Where) <= 1 && len(b.Having) <= 1)
	listed(b.Where, 0, at.node)
	listed(b.Group, 0, at.node)
	listed(b.Having, 0, at.node)
}

// operands checks the operands of an operator of bodies, which have no brackets around them that are not nodes themselves.
func (at place) operands(b Body) {
	must(len(b.Ins) == 2)
	for i, q := range b.Ins {
		must(len(q.Keys) == 0 && q.Limit == -1 && q.Offset == -1)
		must(lineOf(q.Body) >= lineOf(b)+i) // they are joined from the left
	}
	for _, q := range b.Ins {
		at.inner(0).body(q.Body)
	}
}

// lineOf is in which line of the grammar a body is, from body on.
func lineOf(b Body) int {
	switch b.Op {
	case Union, Except:
		return 0
	case Intersect:
		return 1
	}
	return 2
}

func (at place) item(x Item) {
	must(isAlias(x.Table) && isAlias(x.As))
	if x.Star {
		must(x.As == "" && len(x.Expr) == 0)
		return
	}
	must(x.Table == "" && len(x.Expr) == 1)
	at.node(x.Expr[0])
}

func (at place) source(s Source) {
	must(s.Op >= Named && s.Op <= FullJoin && fieldsOfSource(s)&^sourceFields[s.Op] == 0)
	switch s.Op {
	case Named:
		must(token.IsName(s.Name) && isAlias(s.As))
	case Derived:
		must(token.IsName(s.As) && len(s.Query) == 1)
		at.inner(1).query(s.Query[0])
	default:
		at.join(s)
	}
}

func (at place) join(s Source) {
	must(len(s.Ins) == 2 && (s.Ins[1].Op == Named || s.Ins[1].Op == Derived))
	must(s.Op == Cross || len(s.On) == 1)
	for _, x := range s.Ins {
		at.inner(0).source(x)
	}
	listed(s.On, 0, at.node)
}

func (at place) node(n Node) {
	must(n.Op >= Num && n.Op <= Tuple)
	shape := nodeShapes[n.Op]
	must(fieldsOfNode(n)&^shape.fields == 0 && len(n.Args) >= shape.least && len(n.Args) <= shape.most)
	must(n.Number >= 0 && hasRightText(n))
	at.queries(n)
	// From the right, where operators must be in brackets: so that a part that is there again and again is soon too deep.
	for i, arg := range slices.Backward(n.Args) {
		times := nests(n, i)
		if bracketed(n, i) {
			times++
		}
		at.inner(times).node(arg)
	}
}

// nests is how often n nests its Arg i, without brackets around that.
func nests(n Node, i int) int {
	switch n.Op {
	case Unary, Call, Case, Tuple:
		return 1
	case In:
		return min(i, 1)
	}
	return 0
}

func hasRightText(n Node) bool {
	switch n.Op {
	case Str:
		l, e := token.Tokens(quoted(n.Text))
		return e == api.OK && len(l) == 1
	case Column, Call, CountAll:
		return token.IsName(n.Text)
	case Of:
		table, column, _ := strings.Cut(n.Text, ".")
		return token.IsName(table) && token.IsName(column)
	case Unary:
		return n.Text == "not" || n.Text == "-"
	case Binary:
		return operatorLevel(n.Text) >= exprLevel
	}
	return true
}

// queries checks the query that n has, or whether it may have none.
func (at place) queries(n Node) {
	must(len(n.Query) <= 1)
	if len(n.Query) == 0 {
		must(n.Op != Exists && n.Op != Scalar && (n.Op != In || len(n.Args) > 1))
		return
	}
	q := n.Query[0]
	must(n.Op != In || len(n.Args) == 1)
	at.inner(1).query(q)
	must(n.Op == Exists || !beginsWithBracket(q.Body))
}

// beginsWithBracket tells whether the string of a body begins with a bracket. Where there may be expressions in brackets
// as well, it would be read as one of these.
func beginsWithBracket(b Body) bool {
	for lineOf(b) < lineOf(Body{Op: Select}) {
		b = b.Ins[0].Body
	}
	return b.Op == Sub
}
