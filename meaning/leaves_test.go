package meaning_test

import (
	"strings"
	"testing"

	"tactician/api"
	"tactician/meaning"
)

// TestLeavesOfResult: P7.1: an RLeaf anywhere is ErrNone, for Result, Bag and Alike.
func TestLeavesOfResult(t *testing.T) {
	b, d := shopBase(), shopData()
	for _, s := range []string{
		"leaf(0; int; )", "leaf(2000; int; )", "filter(false, leaf(0; int; ))", "union(scan(n), leaf(0; int; ))", "sort([], 0, 0, leaf(0; int; ))",
		"apply(1, inner, leaf(0; int; ), scan(t))", "apply(1, inner, values(int; ), leaf(0; int; ))", "join(semi, exists(1, leaf(0; int; )), values(int; ), scan(t))",
		"filter(exists(1, leaf(0; int; )), scan(t))", "map(one(1, leaf(0; int; )), values(int; ))", "filter(in(1, 1, leaf(0; int; )), scan(t))",
		"filter(in(1, one(2, leaf(0; int; )), scan(n)), scan(t))", "map(one(1, map(one(2, leaf(0; int; )), values(int; ))), values(int; ))",
	} {
		r := read(s)
		if l, e := meaning.Result(b, d, r); l != nil || e != api.ErrNone {
			t.Errorf("Result of %s: %v, %v", s, l, e)
		}
		if l, e := meaning.Bag(b, d, r); l != nil || e != api.ErrNone {
			t.Errorf("Bag of %s: %v, %v", s, l, e)
		}
		if is, e := meaning.Alike(b, d, r, scan("t")); is || e != api.ErrNone {
			t.Errorf("Alike of %s first: %v, %v", s, is, e)
		}
		if is, e := meaning.Alike(b, d, scan("t"), r); is || e != api.ErrNone {
			t.Errorf("Alike of %s behind: %v, %v", s, is, e)
		}
		if _, e := meaning.Given(b, d, make([][][]api.Value, 2001), r); e != api.OK {
			t.Errorf("Given of %s: %v", s, e)
		}
	}
}

// TestGiven: P7.2
func TestGiven(t *testing.T) {
	two := [][][]api.Value{list("2; 1; 2"), list("'x', null; 'y', true")}
	for _, c := range []struct {
		rel    string
		leaves [][][]api.Value
		want   string
	}{
		{"leaf(0; int; )", two, "1; 2; 2"},
		{"leaf(1; text bool?; [0] [0 1] [1])", two, "'x', null; 'y', true"},
		{"union(leaf(0; int; ), leaf(0; int?; ))", two, "1; 1; 2; 2; 2; 2"},
		{"join(inner, eq($0, $1), leaf(0; int; ), leaf(0; int; ))", two, "1, 1; 2, 2; 2, 2; 2, 2; 2, 2"},
		{"filter(exists(1, filter(eq(^1.0, 'x'), leaf(0; int; ))), leaf(1; text bool?; ))", two, "'x', null"},
		{"map(one(1, group([], sum($0), leaf(0; int; ))), scan(n))", two, "5; 5; 5; 5; 5"},
		{"apply(1, inner, leaf(0; int; ), filter(gt($0, ^1.0), leaf(0; int; )))", two, "1, 2; 1, 2"},
		{"sort([0-], 0, -1, leaf(0; int; ))", two, "2; 2; 1"},
		{"leaf(3; int; [])", [][][]api.Value{{}, nil, list("'not asked for'"), list("5")}, "5"},
		{"leaf(0; int; [])", [][][]api.Value{nil}, "none"},
		{"leaf(0; int; [] [0])", [][][]api.Value{list("")}, "none"},
		{"scan(n)", nil, "null; null; 2; 2; 5"},
		{"scan(n)", [][][]api.Value{list("'not asked for'")}, "null; null; 2; 2; 5"},
	} {
		l, e := meaning.Given(shopBase(), shopData(), c.leaves, read(c.rel))
		if got := written(l); got != c.want || e != api.OK {
			t.Errorf("%s: %s, %v, not %s", c.rel, got, e, c.want)
		}
	}
}

// TestSets: P7.2: what the Sets of a leaf allow.
func TestSets(t *testing.T) {
	for _, c := range []struct {
		leaf, rows string
		want       api.Errno
	}{
		{"leaf(0; int int?; )", "1, 2; 1, 2", api.OK},
		{"leaf(0; int int?; [0])", "1, 2; 2, 2", api.OK},
		{"leaf(0; int int?; [0])", "1, 2; 2, 2; 1, 3", api.ErrRows},
		{"leaf(0; int int?; [1])", "1, 2; 2, 2", api.ErrRows},
		{"leaf(0; int int?; [1])", "1, null; 2, 2", api.OK},
		{"leaf(0; int int?; [1])", "1, null; 2, 2; 3, null", api.ErrRows},
		{"leaf(0; int int?; [0 1])", "1, 2; 1, 3; 2, 2", api.OK},
		{"leaf(0; int int?; [0 1])", "1, null; 1, 3; 1, null", api.ErrRows},
		{"leaf(0; int int?; [0] [1])", "1, 2; 2, 3", api.OK},
		{"leaf(0; int int?; [0] [1])", "1, 2; 1, 3", api.ErrRows},
		{"leaf(0; int int?; [0] [1])", "1, 2; 2, 2", api.ErrRows},
		{"leaf(0; int int?; [])", "1, 2", api.OK},
		{"leaf(0; int int?; [])", "1, 2; 3, 4", api.ErrRows},
		{"leaf(0; int int?; [0] [])", "1, 2; 3, 4", api.ErrRows},

		{"leaf(0; int int?; )", "1, null", api.OK},
		{"leaf(0; int int?; )", "null, 1", api.ErrRows},
		{"leaf(0; int int?; )", "1, 2; 1", api.ErrRows},
		{"leaf(0; int int?; )", "1, 2, 3", api.ErrRows},
		{"leaf(0; int int?; )", "1, 2; 1, true", api.ErrRows},
		{"leaf(0; int int?; )", "1, 2; '1', 1", api.ErrRows},
		{"leaf(0; bool text; )", "true, 'x'", api.OK},
		{"leaf(0; bool text; )", "1, 'x'", api.ErrRows},

		// Of one number each leaf counts.
		{"union(leaf(0; int?; ), leaf(0; int; ))", "1; 2", api.OK},
		{"union(leaf(0; int?; ), leaf(0; int; ))", "1; null", api.ErrRows},
		{"union(leaf(0; int; ), leaf(0; int?; ))", "1; null", api.ErrRows},
		{"union(leaf(0; int; [0]), leaf(0; int; ))", "1; 1", api.ErrRows},
		{"union(leaf(0; int; ), leaf(0; int; [0]))", "1; 1", api.ErrRows},
		{"union(leaf(0; int; ), map(one(1, map($0, leaf(0; int; []))), scan(t)))", "1; 2", api.ErrRows},
		{"join(inner, true, leaf(0; int; ), leaf(0; text; ))", "1", api.ErrRows},
		{"join(inner, true, leaf(0; int; ), leaf(0; text; ))", "'x'", api.ErrRows},
		{"join(inner, true, leaf(0; int; ), leaf(0; int int; ))", "1", api.ErrRows},
		{"join(inner, true, leaf(0; int; ), leaf(0; text; ))", "", api.OK},
	} {
		l, e := meaning.Given(shopBase(), shopData(), [][][]api.Value{list(c.rows)}, read(c.leaf))
		if e != c.want || e != api.OK && l != nil {
			t.Errorf("%s with %s: %v, %v, not %v", c.leaf, c.rows, l, e, c.want)
		}
	}
}

// TestOrderOfLeaves: P7.2: the errors come number by number; then ErrLarge.
func TestOrderOfLeaves(t *testing.T) {
	right, wrong := list("1"), list("'x'")
	three := "join(inner, true, leaf(2; int; ), join(inner, true, leaf(0; int; ), leaf(1; int; )))"
	large := "join(inner, true, join(inner, true, leaf(0; int; ), leaf(0; int; )), leaf(1; int; ))"
	many := values(1500).Rows
	for _, c := range []struct {
		name, rel string
		leaves    [][][]api.Value
		want      api.Errno
	}{
		{"all right", three, [][][]api.Value{right, right, right}, api.OK},
		{"one more", three, [][][]api.Value{right, right, right, wrong}, api.OK},
		{"no leaves", three, nil, api.ErrNone},
		{"the last one not there", three, [][][]api.Value{right, right}, api.ErrNone},
		{"the first one wrong, the last one not there", three, [][][]api.Value{wrong, right}, api.ErrRows},
		{"the second one wrong, the last one not there", three, [][][]api.Value{right, wrong}, api.ErrRows},
		{"the first one wrong, the others not there", three, [][][]api.Value{wrong}, api.ErrRows},
		{"the last one wrong", three, [][][]api.Value{right, right, wrong}, api.ErrRows},
		{"too large", large, [][][]api.Value{many, right}, api.ErrLarge},
		{"too large, and one not there", large, [][][]api.Value{many}, api.ErrNone},
		{"too large, and one wrong", large, [][][]api.Value{many, wrong}, api.ErrRows},
		{"as many rows as there may be", "leaf(0; int; [0])", [][][]api.Value{values(api.MaxRows).Rows}, api.OK},
		{"too many rows", "leaf(0; int; )", [][][]api.Value{values(api.MaxRows + 1).Rows}, api.ErrRows},
		{"too many rows, and one not there", three, [][][]api.Value{values(api.MaxRows + 1).Rows}, api.ErrRows},
		{"too many values", "leaf(0; int; )", [][][]api.Value{{make([]api.Value, api.MaxCols+1)}}, api.ErrRows},
		{"no values in a row", "leaf(0; int?; )", [][][]api.Value{{nil}}, api.ErrRows},
		{"what is no value", "leaf(0; int; )", [][][]api.Value{{{{Kind: api.Int, Text: "x"}}}}, api.ErrRows},
		{"what is no kind", "leaf(0; int; )", [][][]api.Value{{{{Kind: 9}}}}, api.ErrRows},
		{"a long text", "leaf(0; text; )", [][][]api.Value{{{{Kind: api.Text, Text: strings.Repeat("x", api.MaxText+1)}}}}, api.ErrRows},
	} {
		l, e := meaning.Given(shopBase(), shopData(), c.leaves, read(c.rel))
		if e != c.want || e != api.OK && l != nil {
			t.Errorf("%s: %d rows, %v, not %v", c.name, len(l), e, c.want)
		}
	}
}
