package syntax_test

import (
	"math/rand"
	"slices"
	"strings"
	"testing"

	"tactician/api"
	"tactician/syntax"
	"tactician/token"
)

// grammar is that of the document, with quotes around the signs that it has as tokens where they mean something in its lines, and
// with a mark before what is in brackets where there may be a query or expressions: ?query if select or values comes next. (Words
// that are names of lines too have a _ behind them. A case has at least one when.)
const grammar = `
all    = query [ ; ]
query  = body [ order by key { , key } ] [ limit number ] [ offset number ]
key    = ( name | number ) [ asc | desc ]
body   = part { ( union | except ) [ all_ ] part }
part   = simple { intersect [ all_ ] simple }
simple = select | values_ row { , row } | '(' query ')'
row    = '(' expr { , expr } ')'
select = select_ [ distinct ] item { , item } [ from source { , source } ] [ where expr ] [ group by expr { , expr } ] [ having expr ]
item   = * | name . * | expr [ [ as ] name ]
source = table { join }
join   = cross join_ table | [ inner | left [ outer ] | right [ outer ] | full [ outer ] ] join_ table on expr
table  = name [ [ as ] name ] | '(' query ')' [ as ] name
expr   = conj { or conj }
conj   = neg { and neg }
neg    = not neg | test
test   = sum [ ( '=' | <> | < | <= | > | >= ) sum | is [ not ] ( null | true ) | is [ not ] distinct from sum | [ not ] in '(' ?query query ')' | [ not ] in '(' expr { , expr } ')' | [ not ] between sum and sum ]
sum    = term { ( + | - | '||' ) term }
term   = sign { ( * | / | % ) sign }
sign   = - sign | prim
prim   = number | text | true | false | null | exists '(' query ')' | case when expr then expr { when expr then expr } [ else expr ] end | '(' ?query query ')' | '(' expr ')' | '(' expr , expr { , expr } ')' | name '(' * ')' | name '(' [ distinct ] expr { , expr } ')' | name . name | name
`

// rule is a part of the grammar: one of several, several in a row, once or not, any number of times, or a word.
type rule struct {
	op    string // |, a blank, [, {; otherwise the word
	parts []*rule
	line  int // whether the word is a line of the grammar: which one, from 1 on
}

// matcher finds how far the lines of the grammar reach. Places in the tokens are bits.
type matcher struct {
	lines []*rule
	names []string
	l     []token.Token
	known [][64]struct {
		is   bool
		ends uint64
	}
}

func newMatcher() *matcher {
	m := &matcher{}
	lines := strings.Split(strings.TrimSpace(grammar), "\n")
	for _, line := range lines {
		m.names = append(m.names, strings.Fields(line)[0])
	}
	for _, line := range lines {
		m.lines = append(m.lines, m.choice(strings.Fields(line)[2:]))
	}
	m.known = make([][64]struct {
		is   bool
		ends uint64
	}, len(lines))
	return m
}

// choice is the rule of words with | between alternatives.
func (m *matcher) choice(words []string) *rule {
	out, row := &rule{op: "|"}, &rule{op: " "}
	for i := 0; i < len(words); i++ {
		switch word := words[i]; word {
		case "|":
			out.parts, row = append(out.parts, row), &rule{op: " "}
		case "(", "[", "{":
			end := i + 1
			for depth := 1; depth > 0; end++ {
				depth += strings.Count("([{", words[end]) - strings.Count(")]}", words[end])
			}
			row.parts = append(row.parts, &rule{op: word, parts: []*rule{m.choice(words[i+1 : end-1])}})
			i = end - 1
		default:
			text := strings.TrimSuffix(strings.Trim(word, "'"), "_")
			row.parts = append(row.parts, &rule{op: "word " + text, line: slices.Index(m.names, word) + 1})
		}
	}
	out.parts = append(out.parts, row)
	return out
}

// accepts tells whether the grammar has s, of less than 64 tokens.
func (m *matcher) accepts(s string) bool {
	l, e := token.Tokens(s)
	m.l = l
	clear(m.known)
	return e == api.OK && m.ends(m.lines[0], 1)>>len(l)&1 == 1
}

// ends returns where a rule may end that begins at one of some places.
func (m *matcher) ends(r *rule, from uint64) uint64 {
	out := uint64(0)
	switch r.op {
	case "|":
		for _, part := range r.parts {
			out |= m.ends(part, from)
		}
	case " ":
		out = from
		for _, part := range r.parts {
			out = m.ends(part, out)
		}
	case "(":
		out = m.ends(r.parts[0], from)
	case "[":
		out = from | m.ends(r.parts[0], from)
	case "{":
		for more := from; more != 0; {
			out |= more
			more = m.ends(r.parts[0], more) &^ out
		}
	default:
		for at := range m.l {
			if from>>at&1 == 1 {
				out |= m.word(r, at)
			}
		}
	}
	return out
}

// word returns where a word may end that begins at a place before the end.
func (m *matcher) word(r *rule, at int) uint64 {
	if r.line > 0 {
		known := &m.known[r.line-1][at]
		if !known.is {
			known.ends = m.ends(m.lines[r.line-1], 1<<at)
			known.is = true
		}
		return known.ends
	}
	next, is := m.l[at], false
	switch text := r.op[len("word "):]; text {
	case "?query":
		if next.Text == "select" || next.Text == "values" {
			return 1 << at
		}
	case "name":
		is = next.Kind == token.Name
	case "number":
		is = next.Kind == token.Number
	case "text":
		is = next.Kind == token.Text
	default:
		is = next.Text == text
	}
	if !is {
		return 0
	}
	return 1 << (at + 1)
}

// compared tells that Parse takes s where the grammar has it, and whether that is so.
func compared(t *testing.T, m *matcher, s string) bool {
	t.Helper()
	has := m.accepts(s)
	q, e := syntax.Parse(s)
	if has != (e == api.OK) || !has && e != api.ErrSyntax {
		t.Fatalf("%s: %v, but the grammar has it: %v", s, e, has)
	}
	if has {
		p, e := syntax.String(q)
		if back, f := syntax.Parse(p); e != api.OK || f != api.OK || !syntax.Same(back, q) {
			t.Fatalf("%s: %q, %v, %v", s, p, e, f)
		}
	}
	return has
}

// P9.1: all short strings of some tokens.
func TestAllShort(t *testing.T) {
	m := newMatcher()
	right := 0
	for _, x := range []struct {
		before, tokens string
		most           int
	}{
		{"", "select values ( ) 1 , union limit", 6}, {"select 1", "union intersect all select 1 ( )", 6}, {"select a", "order by a , 1 asc desc limit offset ;", 5}, {"select", "a . * , as distinct ( ) from", 5}, {"select * from", "t , join cross left outer on as", 5},
		{"select * from t", "t full join inner ( ) on select", 5}, {"select * from (select 1)", "a as , join on where", 5}, {"select", "a ( ) , * distinct - 1", 5}, {"select a", "is not null true distinct from b and", 5}, {"select a", "not in ( ) b , select between", 6}, {"select a between", "b and c not or between = +", 5},
		{"select", "not a - = or and in (", 6}, {"select case", "when then else end a , case", 6}, {"select", "exists ( ) select 1 not values in", 6}, {"select a", "+ - * || = <= a", 5}, {"select a where", "a group by having , where 1", 5},
	} {
		tokens := strings.Fields(x.tokens)
		var below func(s string, n int)
		below = func(s string, n int) {
			if compared(t, m, s) {
				right++
			}
			for _, x := range tokens {
				if n > 0 {
					below(s+" "+x, n-1)
				}
			}
		}
		below(x.before, x.most-1)
	}
	if right < 500 {
		t.Errorf("only %d strings are queries", right)
	}
}

// TestNearlyRight has derived strings in which some tokens are others.
func TestNearlyRight(t *testing.T) {
	m := newMatcher()
	right, wrong := 0, 0
	others := append(token.Words(), strings.Fields("a b t 1 2 'x' ( ) , . * + - / % = < > <= >= <> || ; ( ) ,")...)
	for seed := range 12000 {
		r := rand.New(rand.NewSource(int64(seed)))
		made, _ := (&maker{r: r, left: 1 + r.Intn(40)}).query()
		l := texts(t, made)
		for range r.Intn(3) {
			at := r.Intn(len(l))
			switch r.Intn(4) {
			case 0:
				l[at] = others[r.Intn(len(others))]
			case 1:
				l = append(l[:at], l[min(at+1, len(l)-1):]...)
			case 2:
				l = append(l[:at:at], append([]string{others[r.Intn(len(others))]}, l[at:]...)...)
			case 3:
				other := r.Intn(len(l))
				l[at], l[other] = l[other], l[at]
			}
			if len(l) == 0 {
				break
			}
		}
		s := strings.Join(l, " ")
		if strings.Contains(s, "by 0") || strings.Contains(s, ", 0") || len(l) > 60 {
			continue // a key 0 is no query either
		}
		if compared(t, m, s) {
			right++
		} else {
			wrong++
		}
	}
	if right < 2000 || wrong < 2000 {
		t.Errorf("%d queries, %d others", right, wrong)
	}
}
