package syntax_test

import (
	"testing"

	"tactician/api"
	"tactician/syntax"
)

// TestReadme has what README.md shows.
func TestReadme(t *testing.T) {
	q, e := syntax.Parse("SELECT a x FROM t LEFT OUTER JOIN u ON (b = c) WHERE (a + 1) * 2 > 3;")
	if e != api.OK || q.Body.Op != syntax.Select || q.Limit != -1 {
		t.Fatalf("%v, %v", shown(q), e)
	}
	s, e := syntax.String(q)
	if s != "select a as x from t left join u on b = c where ( a + 1 ) * 2 > 3" || e != api.OK {
		t.Errorf("%s, %v", s, e)
	}
	n := q.Body.Where[0]
	if n.Op != syntax.Binary || n.Text != ">" || n.Args[0].Text != "*" {
		t.Errorf("%v", n)
	}
	p, e := syntax.Parse(s)
	if e != api.OK || !syntax.Same(p, q) {
		t.Errorf("%v, %v", shown(p), e)
	}
	q.Limit = -2
	if s, e := syntax.String(q); s != "" || e != api.ErrSyntax {
		t.Errorf("%s, %v", s, e)
	}
}
