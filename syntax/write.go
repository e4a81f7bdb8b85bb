package syntax

import (
	"strconv"
	"strings"

	"tactician/api"
)

// printer has what is written.
type printer struct {
	out strings.Builder
}

// written returns the string of q, which a string has.
func written(q Query) string {
	p := &printer{}
	p.query(q)
	return p.out.String()
}

// quoted is the token of a text.
func quoted(s string) string {
	return "'" + strings.ReplaceAll(s, "'", "''") + "'"
}

// put writes tokens, with a blank before each but the first.
func (p *printer) put(tokens ...string) {
	for _, s := range tokens {
		if p.out.Len() > 0 {
			s = " " + s
		}
		p.out.WriteString(s)
	}
	if p.out.Len() > api.MaxSql {
		panic(gaveUp{api.ErrLarge})
	}
}

// putIf writes tokens that are not always there.
func (p *printer) putIf(is bool, tokens ...string) {
	if is {
		p.put(tokens...)
	}
}

// putAll writes the elements of a list with commas; before it, if there are any, what comes before them.
func putAll[T any](p *printer, l []T, element func(T), before ...string) {
	for i, x := range l {
		if i == 0 {
			p.put(before...)
		} else {
			p.put(",")
		}
		element(x)
	}
}

func (p *printer) brackets(inner func()) {
	p.put("(")
	inner()
	p.put(")")
}

func (p *printer) query(q Query) {
	p.body(q.Body)
	putAll(p, q.Keys, p.key, "order", "by")
	p.putIf(q.Limit >= 0, "limit", strconv.Itoa(q.Limit))
	p.putIf(q.Offset >= 0, "offset", strconv.Itoa(q.Offset))
}

func (p *printer) key(k Key) {
	if k.Name != "" {
		p.put(k.Name)
	} else {
		p.put(strconv.Itoa(k.At))
	}
	p.putIf(k.Desc, "desc")
}

func (p *printer) body(b Body) {
	switch b.Op {
	case Select:
		p.selected(b)
	case Values:
		p.put(bodyWords[b.Op])
		putAll(p, b.Rows, p.exprs)
	case Sub:
		p.inBrackets(b.Ins[0])
	default:
		p.query(b.Ins[0])
		p.put(bodyWords[b.Op])
		p.putIf(b.All, "all")
		p.query(b.Ins[1])
	}
}

func (p *printer) selected(b Body) {
	p.put(bodyWords[b.Op])
	p.putIf(b.Distinct, "distinct")
	putAll(p, b.Items, p.item)
	putAll(p, b.From, p.source, "from")
	putAll(p, b.Where, p.node, "where")
	putAll(p, b.Group, p.node, "group", "by")
	putAll(p, b.Having, p.node, "having")
}

func (p *printer) item(x Item) {
	p.putIf(x.Table != "", x.Table, ".")
	p.putIf(x.Star, "*")
	putAll(p, x.Expr, p.node)
	p.alias(x.As)
}

func (p *printer) alias(s string) {
	p.putIf(s != "", "as", s)
}

func (p *printer) source(s Source) {
	switch s.Op {
	case Named:
		p.put(s.Name)
		p.alias(s.As)
	case Derived:
		p.inBrackets(s.Query[0])
		p.alias(s.As)
	default:
		p.source(s.Ins[0])
		p.putIf(s.Op != InnerJoin, joinWords[s.Op])
		p.put("join")
		p.source(s.Ins[1])
		putAll(p, s.On, p.node, "on")
	}
}

func (p *printer) inBrackets(q Query) {
	p.brackets(func() { p.query(q) })
}

// exprs writes expressions in brackets.
func (p *printer) exprs(l []Node) {
	p.brackets(func() { putAll(p, l, p.node) })
}

func (p *printer) node(n Node) {
	switch n.Op {
	case Num:
		p.put(strconv.FormatInt(n.Number, 10))
	case Str:
		p.put(quoted(n.Text))
	case True:
		p.put("true")
	case False:
		p.put("false")
	case Nothing:
		p.put("null")
	case Column:
		p.put(n.Text)
	case Of:
		table, column, _ := strings.Cut(n.Text, ".")
		p.put(table, ".", column)
	case Call:
		p.call(n)
	case CountAll:
		p.put(n.Text, "(", "*", ")")
	case Unary:
		p.put(n.Text)
		p.arg(n, 0)
	case Binary:
		p.arg(n, 0)
		p.put(n.Text)
		p.arg(n, 1)
	case Exists:
		p.put("exists")
		p.inBrackets(n.Query[0])
	case Case:
		p.cases(n.Args)
	case Scalar:
		p.inBrackets(n.Query[0])
	case Tuple:
		p.exprs(n.Args)
	default:
		p.test(n)
	}
}

// arg writes the Arg i of n, in brackets where it must be.
func (p *printer) arg(n Node, i int) {
	if bracketed(n, i) {
		p.exprs(n.Args[i : i+1])
	} else {
		p.node(n.Args[i])
	}
}

func (p *printer) call(n Node) {
	p.put(n.Text)
	p.brackets(func() {
		p.putIf(n.Distinct, "distinct")
		putAll(p, n.Args, p.node)
	})
}

// test writes IsNull, IsTrue, Differs, In and Between.
func (p *printer) test(n Node) {
	p.arg(n, 0)
	isIs := n.Op == IsNull || n.Op == IsTrue || n.Op == Differs
	p.putIf(isIs, "is")
	p.putIf(n.Not, "not")
	switch n.Op {
	case IsNull:
		p.put("null")
	case IsTrue:
		p.put("true")
	case Differs:
		p.put("distinct", "from")
		p.arg(n, 1)
	case In:
		p.put("in")
		p.among(n)
	case Between:
		p.put("between")
		p.arg(n, 1)
		p.put("and")
		p.arg(n, 2)
	}
}

// among writes what is behind in.
func (p *printer) among(n Node) {
	if len(n.Query) > 0 {
		p.inBrackets(n.Query[0])
	} else {
		p.exprs(n.Args[1:])
	}
}

func (p *printer) cases(args []Node) {
	p.put("case")
	for len(args) > 1 {
		p.put("when")
		p.node(args[0])
		p.put("then")
		p.node(args[1])
		args = args[2:]
	}
	putAll(p, args, p.node, "else")
	p.put("end")
}
