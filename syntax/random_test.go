package syntax_test

import (
	"math/rand"
	"slices"
	"strings"
	"testing"

	"tactician/api"
	"tactician/syntax"
	"tactician/token"
)

// texts are the tokens of s.
func texts(t *testing.T, s string) []string {
	t.Helper()
	l, e := token.Tokens(s)
	if e != api.OK {
		t.Fatalf("%s: %v", s, e)
	}
	var out []string
	for _, x := range l {
		out = append(out, x.Text)
	}
	return out
}

// withoutAs is how many tokens there are in l but as, which is always written.
func withoutAs(l []string) int {
	n := 0
	for _, s := range l {
		if s != "as" {
			n++
		}
	}
	return n
}

// P9.1, P9.3: derived strings have the trees that the grammar says, and these have strings that are read back, and are no longer.
func TestDerived(t *testing.T) {
	large, deep := 0, 0
	for seed := range 4000 {
		m := &maker{r: rand.New(rand.NewSource(int64(seed))), left: 1 + seed%200}
		s, q := m.query()
		if len(s) > api.MaxSql {
			wrong(t, s, api.ErrLarge)
			continue
		}
		if m.deepest > api.MaxDepth {
			wrong(t, s, api.ErrSyntax)
			deep++
			continue
		}
		is(t, s, q)
		is(t, strings.ToUpper(strings.ReplaceAll(s, "'it''s'", "''"))+";", mustParse(t, strings.ReplaceAll(s, "'it''s'", "''")))
		printed, e := syntax.String(q)
		if e == api.ErrLarge {
			large++
			continue
		}
		if e != api.OK || withoutAs(texts(t, printed)) > withoutAs(texts(t, s)) {
			t.Errorf("%s: %s, %v", s, printed, e)
		}
		if strings.Join(texts(t, printed), " ") != printed {
			t.Errorf("%s: not its tokens with a blank between any two", printed)
		}
		is(t, printed, q)
		prints(t, mustParse(t, printed), printed)
		if back := mustParse(t, printed); !syntax.Same(back, q) {
			t.Errorf("%s: not the same: %s", s, printed)
		}
		if t.Failed() {
			return
		}
	}
	if large > 100 || deep < 10 || deep > 1000 {
		t.Errorf("%d are large, %d deep", large, deep)
	}
}

// P9.2: no token but as can be left out of a printed string, nor two brackets, so that its tree is the same.
func TestShortest(t *testing.T) {
	for seed := range 600 {
		m := &maker{r: rand.New(rand.NewSource(int64(seed))), left: 1 + seed%60}
		_, q := m.query()
		s, e := syntax.String(q)
		if e == api.ErrSyntax && m.deepest > api.MaxDepth {
			continue
		}
		if e != api.OK {
			t.Fatalf("%s: %v", shown(q), e)
		}
		l := texts(t, s)
		without := func(places ...int) {
			var rest []string
			for i, x := range l {
				if !slices.Contains(places, i) {
					rest = append(rest, x)
				}
			}
			other := strings.Join(rest, " ")
			if p, e := syntax.Parse(other); e == api.OK && syntax.Same(p, q) {
				t.Fatalf("%s: %s is shorter", s, other)
			}
		}
		var open []int
		for i, x := range l {
			switch x {
			case "as":
				continue
			case "(":
				open = append(open, i)
			case ")":
				without(open[len(open)-1], i)
				open = open[:len(open)-1]
			}
			without(i)
		}
	}
}
