package syntax_test

import (
	"strconv"
	"strings"
	"testing"

	"tactician/api"
	"tactician/syntax"
)

// Parts of trees, written shortly.

type (
	Node   = syntax.Node
	Query  = syntax.Query
	Body   = syntax.Body
	Source = syntax.Source
	Item   = syntax.Item
	Key    = syntax.Key
)

func num(n int64) Node  { return Node{Op: syntax.Num, Number: n} }
func str(s string) Node { return Node{Op: syntax.Str, Text: s} }
func col(s string) Node { return Node{Op: syntax.Column, Text: s} }
func of(s string) Node  { return Node{Op: syntax.Of, Text: s} }
func not(a Node) Node   { return Node{Op: syntax.Unary, Text: "not", Args: []Node{a}} }
func minus(a Node) Node { return Node{Op: syntax.Unary, Text: "-", Args: []Node{a}} }
func bin(a Node, op string, b Node) Node {
	return Node{Op: syntax.Binary, Text: op, Args: []Node{a, b}}
}
func node(op int, args ...Node) Node   { return Node{Op: op, Args: args} }
func call(s string, args ...Node) Node { return Node{Op: syntax.Call, Text: s, Args: args} }
func exists(q Query) Node              { return Node{Op: syntax.Exists, Query: []Query{q}} }
func scalar(q Query) Node              { return Node{Op: syntax.Scalar, Query: []Query{q}} }
func tuple(args ...Node) Node          { return node(syntax.Tuple, args...) }

// inQuery is the In of a in q.
func inQuery(a Node, q Query) Node {
	return Node{Op: syntax.In, Args: []Node{a}, Query: []Query{q}}
}

// negated is n with Not.
func negated(n Node) Node {
	n.Not = true
	return n
}

// distinct is a call with Distinct.
func distinct(n Node) Node {
	n.Distinct = true
	return n
}

// plain is a query that is only a body.
func plain(b Body) Query { return Query{Body: b, Limit: -1, Offset: -1} }

// item is an expression without a name.
func item(n Node) Item { return Item{Expr: []Node{n}} }

// items is the body that selects expressions.
func items(l ...Node) Body {
	out := Body{Op: syntax.Select}
	for _, n := range l {
		out.Items = append(out.Items, item(n))
	}
	return out
}

// chosen is the query that selects expressions.
func chosen(l ...Node) Query { return plain(items(l...)) }

// values is the body of rows.
func values(rows ...[]Node) Body { return Body{Op: syntax.Values, Rows: rows} }

// set is an operator of bodies.
func set(op int, a, b Body) Body { return Body{Op: op, Ins: []Query{plain(a), plain(b)}} }

// all is an operator of bodies with All.
func all(b Body) Body {
	b.All = true
	return b
}

func sub(q Query) Body { return Body{Op: syntax.Sub, Ins: []Query{q}} }

func table(name, as string) Source { return Source{Op: syntax.Named, Name: name, As: as} }

func derived(q Query, as string) Source { return Source{Op: syntax.Derived, Query: []Query{q}, As: as} }

func join(op int, a, b Source, on ...Node) Source {
	return Source{Op: op, Ins: []Source{a, b}, On: on}
}

// from is the query that selects all of sources.
func from(l ...Source) Query {
	return plain(Body{Op: syntax.Select, Items: []Item{{Star: true}}, From: l})
}

// many is s as often as is said.
func many(s string, n int) string { return strings.Repeat(s, n) }

// rowOf is n elements with commas.
func rowOf(s string, n int) string { return strings.TrimSuffix(many(s+", ", n), ", ") }

// shown is a tree as text, for messages and for comparing: nil and empty lists look the same.
func shown(q Query) string {
	var out strings.Builder
	out.WriteString("{" + shownBody(q.Body))
	for _, k := range q.Keys {
		out.WriteString(" key " + strconv.Quote(k.Name) + " " + strconv.Itoa(k.At) + " " + strconv.FormatBool(k.Desc))
	}
	out.WriteString(" limit " + strconv.Itoa(q.Limit) + " offset " + strconv.Itoa(q.Offset) + "}")
	return out.String()
}

func shownBody(b Body) string {
	out := strings.Builder{}
	out.WriteString("body" + strconv.Itoa(b.Op))
	if b.All {
		out.WriteString(" all")
	}
	if b.Distinct {
		out.WriteString(" distinct")
	}
	for _, x := range b.Items {
		out.WriteString(" item(" + strconv.FormatBool(x.Star) + " " + strconv.Quote(x.Table) + " " + shownNodes(x.Expr) + " as " + strconv.Quote(x.As) + ")")
	}
	out.WriteString(" from" + shownSources(b.From))
	out.WriteString(" where" + shownNodes(b.Where) + " group" + shownNodes(b.Group) + " having" + shownNodes(b.Having))
	for _, r := range b.Rows {
		out.WriteString(" row" + shownNodes(r))
	}
	return out.String() + shownQueries(b.Ins)
}

func shownQueries(l []Query) string {
	out := ""
	for _, q := range l {
		out += " " + shown(q)
	}
	return out
}

func shownSources(l []Source) string {
	out := "["
	for _, s := range l {
		out += "source" + strconv.Itoa(s.Op) + " " + strconv.Quote(s.Name) + " as " + strconv.Quote(s.As) + shownQueries(s.Query) + shownSources(s.Ins) + shownNodes(s.On) + ";"
	}
	return out + "]"
}

func shownNodes(l []Node) string {
	out := "["
	for _, n := range l {
		out += "node" + strconv.Itoa(n.Op) + " " + strconv.Quote(n.Text) + " " + strconv.FormatInt(n.Number, 10)
		if n.Not {
			out += " not"
		}
		if n.Distinct {
			out += " distinct"
		}
		out += shownNodes(n.Args) + shownQueries(n.Query) + ";"
	}
	return out + "]"
}

// is tells that the tree of s is want.
func is(t *testing.T, s string, want Query) {
	t.Helper()
	got, e := syntax.Parse(s)
	if e != api.OK || shown(got) != shown(want) {
		t.Errorf("%.200q: %v, %v, not %v", s, shown(got), e, shown(want))
	}
}

// wrong tells that Parse of s has the error want, and no tree with it.
func wrong(t *testing.T, s string, want api.Errno) {
	t.Helper()
	got, e := syntax.Parse(s)
	if e != want || shown(got) != shown(Query{}) {
		t.Errorf("%.200q: %v, %v, not %v", s, shown(got), e, want)
	}
}

// prints tells that the string of q is want.
func prints(t *testing.T, q Query, want string) {
	t.Helper()
	if got, e := syntax.String(q); got != want || e != api.OK {
		t.Errorf("%.300s: %q, %v, not %q", shown(q), got, e, want)
	}
}

// hasNone tells that String of q has the error want, and no string with it.
func hasNone(t *testing.T, what string, q Query, want api.Errno) {
	t.Helper()
	if got, e := syntax.String(q); got != "" || e != want {
		t.Errorf("%s: %.300q, %v, not %v", what, got, e, want)
	}
}

// both tells that the tree of s is q, and that the string of q is printed.
func both(t *testing.T, s string, q Query, printed string) {
	t.Helper()
	is(t, s, q)
	prints(t, q, printed)
	is(t, printed, q)
}
