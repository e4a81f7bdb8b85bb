package meaning_test

import (
	"testing"

	"tactician/algebra"
	"tactician/api"
	"tactician/base"
	"tactician/meaning"
)

// TestReadme has what README.md shows.
func TestReadme(t *testing.T) {
	b, e := base.Parse("table t (a int, b text null) key (a) index i (b, a)\ntable u (c int null) ref (c) t 0\n")
	d := api.Data{Rows: [][][]api.Value{list("1, null; 2, 'x'"), list("2")}}
	if e != api.OK {
		t.Fatal(e)
	}
	shown := func(l [][]api.Value, e api.Errno) string {
		if e != api.OK {
			t.Error(e)
		}
		return written(l)
	}
	r, _ := algebra.Parse(b, "sort([0-], 0, -1, join(left, eq($0, $2), scan(t), scan(u)))")
	if got := shown(meaning.Result(b, d, r)); got != "2, 'x', 2; 1, null, null" {
		t.Errorf("Result: %s", got)
	}
	if got := shown(meaning.Bag(b, d, r)); got != "1, null, null; 2, 'x', 2" {
		t.Errorf("Bag: %s", got)
	}
	f, _ := algebra.Parse(b, "minus(scan(u), leaf(0; int; [0]))")
	if got := shown(meaning.Given(b, d, [][][]api.Value{list("2; 3")}, f)); got != "none" {
		t.Errorf("Given: %s", got)
	}
	if l, e := meaning.Given(b, d, nil, f); l != nil || e != api.ErrNone {
		t.Errorf("Given no leaves: %v, %v", l, e)
	}
	if is, e := meaning.Alike(b, d, r, r.Ins[0]); !is || e != api.OK {
		t.Errorf("Alike: %v, %v", is, e)
	}
	x, _ := algebra.Parse(b, "filter(exists(1, filter(eq($0, ^1.0), scan(u))), scan(u))")
	if v, e := meaning.Ask(b, d, x.Exprs[0], columns("int"), list("2")[0]); v != yes(true) || e != api.OK {
		t.Errorf("Ask: %v, %v", v, e)
	}
}
