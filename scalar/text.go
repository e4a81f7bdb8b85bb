package scalar

import (
	"strconv"
	"strings"

	"tactician/api"
	"tactician/value"
)

// kinds has the words of the kinds.
var kinds = [...]string{api.Int: "int", api.Bool: "bool", api.Text: "text"}

// String returns the string of e.
func String(e api.Expr) (string, api.Errno) {
	if f := check(e); f != api.OK {
		return "", f
	}
	s := written(e)
	if len(s) > api.MaxString {
		return "", api.ErrLarge
	}
	return s, api.OK
}

// Parse returns the expression whose string s is.
func Parse(s string) (out api.Expr, f api.Errno) {
	if len(s) > api.MaxString {
		return api.Expr{}, api.ErrLarge
	}
	defer func() {
		if recover() != nil {
			out, f = api.Expr{}, api.ErrExpr
		}
	}()
	p := &parser{rest: s}
	out = p.expr()
	// Writing it again finds all that the parser lets through: zeros in front, what lies behind the end, what has not the form.
	if back, f := String(out); f != api.OK || back != s {
		panic(noExpr{})
	}
	return out, api.OK
}

// written takes an expression that has been checked.
func written(e api.Expr) string {
	switch e.Op {
	case api.OCol:
		return "$" + strconv.Itoa(e.N)
	case api.OOuter:
		return "^" + strconv.Itoa(e.N) + "." + strconv.Itoa(e.M)
	case api.OLit:
		s, _ := value.String(e.Lit)
		if isNull(e.Lit) {
			s += ":" + kinds[e.Kind]
		}
		return s
	}
	return shapes[e.Op].word + "(" + strings.Join(each(e.Args, written), ", ") + ")"
}

// parser has what of a string is still to be read.
type parser struct{ rest string }

// noExpr is the panic by which the parser gives up.
type noExpr struct{}

// eat goes behind s, if that comes next.
func (p *parser) eat(s string) bool {
	rest, ok := strings.CutPrefix(p.rest, s)
	p.rest = rest
	return ok
}

func (p *parser) need(s string) {
	if !p.eat(s) {
		panic(noExpr{})
	}
}

// take goes behind the next n bytes.
func (p *parser) take(n int) string {
	s := p.rest[:n]
	p.rest = p.rest[n:]
	return s
}

func (p *parser) expr() api.Expr {
	if p.eat("$") {
		return api.Expr{Op: api.OCol, N: p.number()}
	}
	if p.eat("^") {
		n := p.number()
		p.need(".")
		return api.Expr{Op: api.OOuter, N: n, M: p.number()}
	}
	for op := api.OAdd; op <= api.OCoalesce; op++ {
		if p.eat(shapes[op].word + "(") {
			return api.Expr{Op: op, Args: list(p, p.expr)}
		}
	}
	return p.literal()
}

// list reads items with commas between, up to the bracket behind the last one.
func list[T any](p *parser, item func() T) []T {
	out := []T{item()}
	for !p.eat(")") {
		p.need(", ")
		out = append(out, item())
	}
	return out
}

func (p *parser) number() int {
	n, err := strconv.Atoi(p.take(len(p.rest) - len(strings.TrimLeft(p.rest, "0123456789"))))
	if err != nil {
		panic(noExpr{})
	}
	return n
}

func (p *parser) literal() api.Expr {
	v, f := value.Parse(p.take(end(p.rest)))
	if f != api.OK {
		panic(noExpr{})
	}
	if !isNull(v) {
		return literal(v)
	}
	p.need(":")
	return api.Expr{Op: api.OLit, Kind: p.kind()}
}

func (p *parser) kind() api.Kind {
	for kind := api.Int; kind <= api.Text; kind++ {
		if p.eat(kinds[kind]) {
			return kind
		}
	}
	panic(noExpr{})
}

// end is where the value at the beginning of s ends: at the first comma, bracket or colon outside of a text. A quote in a
// text is written twice, so that in and out are as if one text ended there and another one began.
func end(s string) int {
	inside := false
	for i := range len(s) {
		if s[i] == '\'' {
			inside = !inside
		}
		if !inside && strings.IndexByte(",):", s[i]) >= 0 {
			return i
		}
	}
	return len(s)
}
