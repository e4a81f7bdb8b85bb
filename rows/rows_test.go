package rows_test

import (
	"math"
	"slices"
	"strings"
	"testing"

	"tactician/api"
	"tactician/rows"
	"tactician/value"
)

type row = []api.Value

var (
	null = api.Value{}
	yes  = api.Value{Kind: api.Bool, Int: 1}
	no   = api.Value{Kind: api.Bool}
	one  = number(1)
	two  = number(2)
	none = api.Value{Kind: api.Bool, Int: 2}
)

func number(n int64) api.Value { return api.Value{Kind: api.Int, Int: n} }

func text(s string) api.Value { return api.Value{Kind: api.Text, Text: s} }

// list reads rows whose values have commas between them and which have semicolons between them; a bar stands for a row
// without values.
func list(s string) []row {
	var out []row
	for _, w := range strings.FieldsFunc(s, func(r rune) bool { return r == ';' }) {
		var r row
		for _, x := range strings.FieldsFunc(w, func(r rune) bool { return r == ',' }) {
			if x = strings.TrimSpace(x); x == "|" {
				continue
			}
			v, e := value.Parse(x)
			if e != api.OK {
				panic(x)
			}
			r = append(r, v)
		}
		out = append(out, r)
	}
	return out
}

// shown writes rows as list reads them, by value.String alone.
func shown(l []row) string {
	var out []string
	for _, r := range l {
		var ws []string
		for _, v := range r {
			w, e := value.String(v)
			if e != api.OK {
				w = "none"
			}
			ws = append(ws, w)
		}
		if len(r) == 0 {
			ws = []string{"|"}
		}
		out = append(out, strings.Join(ws, ", "))
	}
	return strings.Join(out, "; ")
}

func groupsShown(g [][]row) string {
	var out []string
	for _, l := range g {
		out = append(out, shown(l))
	}
	return strings.Join(out, " / ")
}

func same(a, b row) bool { return slices.Equal(a, b) }

func equal(a, b []row) bool { return slices.EqualFunc(a, b, same) }

func deep(l []row) []row {
	var out []row
	for _, r := range l {
		out = append(out, slices.Clone(r))
	}
	return out
}

// times is how often r is in l, by the definition.
func times(l []row, r row) int {
	n := 0
	for _, x := range l {
		if same(x, r) {
			n++
		}
	}
	return n
}

// rising are different rows, in the order of rows.
func rising() []row {
	return list("|; null; null, null; null, 1; -1, 'b'; 1; 1, null; 1, null, 'z'; 1, 1; 1, 2; 1, 10; 1, false; 1, 'a'; 2; 10; " +
		"false; true; true, -5; ''; '', ''; 'a'; 'a', 'a'; 'a '; 'a''b'; 'ab'; 'b'; 'b', 1")
}

// lists calls each for all lists of at most most of the rows of, in all orders, with repetitions.
func lists(of []row, most int, each func(l []row)) {
	var grow func(l []row)
	grow = func(l []row) {
		each(deep(l))
		if len(l) == most {
			return
		}
		for _, r := range of {
			grow(append(slices.Clone(l), r))
		}
	}
	grow(nil)
}

func many(n int, r row) []row {
	out := make([]row, n)
	for i := range out {
		out[i] = r
	}
	return out
}

// P2.1

func TestCheckCols(t *testing.T) {
	all := func(kinds ...api.Kind) (cols []api.Col) {
		for i, k := range kinds {
			cols = append(cols, api.Col{Kind: k, Null: i%2 == 1})
		}
		return cols
	}
	for _, c := range []struct {
		cols []api.Col
		want api.Errno
	}{
		{nil, api.ErrRows},
		{[]api.Col{}, api.ErrRows},
		{all(api.Int), api.OK},
		{all(api.Bool), api.OK},
		{all(api.Text), api.OK},
		{all(api.Text, api.Text, api.Bool, api.Int), api.OK},
		{all(api.Null), api.ErrRows},
		{all(api.Int, api.Null), api.ErrRows},
		{all(4), api.ErrRows},
		{all(-1, api.Int), api.ErrRows},
		{all(math.MaxInt), api.ErrRows},
		{all(slices.Repeat([]api.Kind{api.Int}, api.MaxCols)...), api.OK},
		{all(slices.Repeat([]api.Kind{api.Int}, api.MaxCols+1)...), api.ErrLarge},
		{all(slices.Repeat([]api.Kind{api.Null}, api.MaxCols+1)...), api.ErrLarge},
	} {
		if e := rows.CheckCols(c.cols); e != c.want {
			t.Errorf("%v: %v, not %v", c.cols, e, c.want)
		}
		if e := rows.Check(c.cols, nil); e != c.want {
			t.Errorf("Check of no rows, %v: %v, not %v", c.cols, e, c.want)
		}
	}
}

func TestCheck(t *testing.T) {
	cols := []api.Col{{Kind: api.Int}, {Kind: api.Text, Null: true}, {Kind: api.Bool}}
	for s, want := range map[string]api.Errno{
		"":                              api.OK,
		"1, 'a', true":                  api.OK,
		"1, null, false; -1, '', true":  api.OK,
		"1, null, false; 1, null, true": api.OK,
		"|":                             api.ErrRows,
		"1":                             api.ErrRows,
		"1, 'a'":                        api.ErrRows,
		"1, 'a', true, true":            api.ErrRows,
		"1, 'a', true, null":            api.ErrRows,
		"null, 'a', true":               api.ErrRows,
		"1, 'a', null":                  api.ErrRows,
		"'1', 'a', true":                api.ErrRows,
		"true, 'a', true":               api.ErrRows,
		"1, 1, true":                    api.ErrRows,
		"1, true, true":                 api.ErrRows,
		"1, 'a', 1":                     api.ErrRows,
		"1, 'a', 'true'":                api.ErrRows,
		"1, 'a', true; 1, 'a', null":    api.ErrRows,
		"|; 1, 'a', true":               api.ErrRows,
	} {
		if e := rows.Check(cols, list(s)); e != want {
			t.Errorf("%s: %v, not %v", s, e, want)
		}
	}
	if e := rows.Check(cols, many(api.MaxRows, row{one, null, yes})); e != api.OK {
		t.Errorf("MaxRows rows: %v", e)
	}
	wide := slices.Repeat([]api.Col{{Kind: api.Int}}, api.MaxCols)
	if e := rows.Check(wide, []row{slices.Repeat(row{one}, api.MaxCols)}); e != api.OK {
		t.Errorf("MaxCols columns: %v", e)
	}
}

func TestCheckOrderOfErrors(t *testing.T) {
	cols := []api.Col{{Kind: api.Int}}
	wide := make([]api.Col, api.MaxCols+1)
	for _, c := range []struct {
		name string
		cols []api.Col
		l    []row
		want api.Errno
	}{
		{"too many columns, before a value", wide, []row{{none}}, api.ErrLarge},
		{"a row that is too long, before a value", cols, []row{{none}, make(row, api.MaxCols+1)}, api.ErrLarge},
		{"too many rows, before no columns", nil, many(api.MaxRows+1, row{one}), api.ErrLarge},
		{"a value, before no columns", nil, []row{{none}}, api.ErrValue},
		{"a value, before a kind", []api.Col{{}}, []row{{one}, {none}}, api.ErrValue},
		{"a value, before a row that does not fit", cols, []row{{}, {text("a")}, {none}}, api.ErrValue},
		{"a value that does not fit", cols, []row{{none}}, api.ErrValue},
	} {
		if e := rows.Check(c.cols, c.l); e != c.want {
			t.Errorf("%s: %v, not %v", c.name, e, c.want)
		}
	}
}

// The errors of all calls with rows.

// calls are all calls that take lists of rows, each with as many of them as it takes; every result must be zero.
func calls() map[string]func(a, b []row) (bool, api.Errno) {
	first := func(l []row) row {
		if len(l) == 0 {
			return nil
		}
		return l[0]
	}
	return map[string]func(a, b []row) (bool, api.Errno){
		"Check":     func(a, _ []row) (bool, api.Errno) { return true, rows.Check([]api.Col{{Kind: api.Int}}, a) },
		"Compare":   func(a, b []row) (bool, api.Errno) { n, e := rows.Compare(first(a), first(b)); return n == 0, e },
		"Canonical": func(a, _ []row) (bool, api.Errno) { l, e := rows.Canonical(a); return len(l) == 0, e },
		"Same":      func(a, b []row) (bool, api.Errno) { is, e := rows.Same(a, b); return !is, e },
		"Times":     func(a, b []row) (bool, api.Errno) { n, e := rows.Times(a, first(b)); return n == 0, e },
		"Distinct":  func(a, _ []row) (bool, api.Errno) { l, e := rows.Distinct(a); return len(l) == 0, e },
		"Both":      func(a, b []row) (bool, api.Errno) { l, e := rows.Both(a, b, false); return len(l) == 0, e },
		"Both all":  func(a, b []row) (bool, api.Errno) { l, e := rows.Both(a, b, true); return len(l) == 0, e },
		"Minus":     func(a, b []row) (bool, api.Errno) { l, e := rows.Minus(a, b, false); return len(l) == 0, e },
		"Minus all": func(a, b []row) (bool, api.Errno) { l, e := rows.Minus(a, b, true); return len(l) == 0, e },
		"Groups":    func(a, _ []row) (bool, api.Errno) { l, e := rows.Groups(a, []int{-1}); return len(l) == 0, e },
		"Ordered": func(a, _ []row) (bool, api.Errno) {
			l, e := rows.Ordered(a, []api.Key{{Col: -1}})
			return len(l) == 0, e
		},
		"String": func(a, _ []row) (bool, api.Errno) { s, e := rows.String(a); return s == "", e },
	}
}

// takesTwo tells which of calls examine b.
func takesTwo(name string) bool {
	return slices.Contains([]string{"Compare", "Same", "Times", "Both", "Both all", "Minus", "Minus all"}, name)
}

// Only the first row counts for Compare, and of b for Times.
func takesRows(name string) bool { return name != "Compare" }

func TestLargeAndNone(t *testing.T) {
	wide := slices.Repeat(row{one}, api.MaxCols+1)
	wideNone := slices.Repeat(row{none}, api.MaxCols+1)
	right := []row{{one}}
	long := text(strings.Repeat("a", api.MaxText+1))
	for name, call := range calls() {
		expect := func(what string, a, b []row, want api.Errno) {
			if zero, e := call(a, b); e != want || !zero {
				t.Errorf("%s, %s: %v, not %v; zero: %v", name, what, e, want, zero)
			}
		}
		expect("a row that is too long", []row{wide}, right, api.ErrLarge)
		expect("a long row of nones", []row{wideNone}, right, api.ErrLarge)
		for _, x := range []api.Value{none, {Kind: 4}, {Kind: -1}, {Int: 1}, {Kind: api.Int, Text: "a"}, long, text("\n")} {
			expect("a none", []row{{x}}, right, api.ErrValue)
			expect("a none at the end", []row{{one, null, x}}, right, api.ErrValue)
			if takesTwo(name) {
				expect("a none in b", right, []row{{x}}, api.ErrValue)
				expect("a none in b, both times", []row{{x}}, []row{{x}}, api.ErrValue)
				expect("a none, and a long row in b", []row{{x}}, []row{wide}, api.ErrLarge)
				expect("a long row, and a none in b", []row{wide}, []row{{x}}, api.ErrLarge)
			}
			if takesRows(name) {
				expect("a none in the last row", []row{{one}, {}, {one, x}}, right, api.ErrValue)
				expect("a none, and a long row", []row{{x}, wide}, right, api.ErrLarge)
			}
		}
		if takesTwo(name) {
			expect("a long row in b", right, []row{wide}, api.ErrLarge)
		}
		if takesRows(name) {
			expect("too many rows", many(api.MaxRows+1, row{one}), right, api.ErrLarge)
			expect("too many rows without values", make([]row, api.MaxRows+1), right, api.ErrLarge)
			expect("too many nones", many(api.MaxRows+1, row{none}), right, api.ErrLarge)
		}
		if takesRows(name) && takesTwo(name) && name != "Times" {
			expect("too many rows in b", right, many(api.MaxRows+1, row{one}), api.ErrLarge)
			expect("a none, and too many rows in b", []row{{none}}, make([]row, api.MaxRows+1), api.ErrLarge)
		}
	}
}

// R4: arguments are neither changed nor kept, what lies beyond them is not read, and results are new memory.
func TestMemory(t *testing.T) {
	shared := row{two, text("b"), none, none}[:2]
	whole := []row{shared, {one, text("a")}, shared, {one, text("a")}, {none}, {none}}
	before := deep(whole)
	a := whole[:4]
	other := []row{shared, {one, text("a")}, {one, text("a")}}
	results := map[string]func() []row{
		"Canonical": func() []row { l, _ := rows.Canonical(a); return l },
		"Distinct":  func() []row { l, _ := rows.Distinct(a); return l },
		"Both":      func() []row { l, _ := rows.Both(a, other, false); return l },
		"Both all":  func() []row { l, _ := rows.Both(a, other, true); return l },
		"Minus":     func() []row { l, _ := rows.Minus(a, nil, false); return l },
		"Minus all": func() []row { l, _ := rows.Minus(a, nil, true); return l },
		"Ordered":   func() []row { l, _ := rows.Ordered(a, []api.Key{{Col: 0, Desc: true}}); return l },
		"Groups": func() []row {
			g, _ := rows.Groups(a, []int{1})
			for i := range g {
				want := groupsShown(g)
				_ = append(g[i], row{none})
				if groupsShown(g) != want {
					t.Errorf("Groups: what is appended to a group gets into another one")
				}
			}
			return slices.Concat(g...)
		},
	}
	for name, result := range results {
		l, again := result(), result()
		want := deep(again)
		if len(l) < 2 {
			t.Errorf("%s: only %s", name, shown(l))
		}
		for i := range l {
			rest := deep(l[i+1:])
			clear(l[i][:cap(l[i])])
			if !equal(rest, l[i+1:]) {
				t.Errorf("%s: two rows share memory", name)
			}
		}
		clear(l[:cap(l)])
		if !equal(again, want) {
			t.Errorf("%s: two results share memory", name)
		}
		if !equal(whole, before) || !same(shared[:4], row{two, text("b"), none, none}) {
			t.Fatalf("%s: the argument has changed to %s", name, shown(whole))
		}
	}
	by, keys := []int{1, 0, 1, 99}[:3], []api.Key{{Col: 1}, {Col: 0}, {Col: 1, Desc: true}, {Col: 99}}[:3]
	rows.Groups(a, by)
	rows.Ordered(a, keys)
	rows.Same(a, other)
	rows.Times(a, shared)
	rows.String(a)
	if !slices.Equal(by[:4], []int{1, 0, 1, 99}) || !slices.Equal(keys[:4], []api.Key{{Col: 1}, {Col: 0}, {Col: 1, Desc: true}, {Col: 99}}) {
		t.Errorf("the places or the keys have changed: %v, %v", by, keys)
	}
	if !equal(whole, before) {
		t.Errorf("the argument has changed to %s", shown(whole))
	}
}

// P2.2

func TestCompare(t *testing.T) {
	l := rising()
	for i, a := range l {
		for j, b := range l {
			want := max(-1, min(1, i-j))
			if n, e := rows.Compare(a, b); n != want || e != api.OK {
				t.Errorf("%s and %s: %d, %v, not %d", shown([]row{a}), shown([]row{b}), n, e, want)
			}
		}
	}
	if n, e := rows.Compare(nil, row{}); n != 0 || e != api.OK {
		t.Errorf("nil and an empty row: %d, %v", n, e)
	}
	wide := slices.Repeat(row{one}, api.MaxCols)
	if n, e := rows.Compare(wide, wide[:api.MaxCols-1]); n != 1 || e != api.OK {
		t.Errorf("MaxCols values: %d, %v", n, e)
	}
	if n, e := rows.Compare(row{number(math.MinInt64)}, row{number(math.MaxInt64)}); n != -1 || e != api.OK {
		t.Errorf("the least and the greatest number: %d, %v", n, e)
	}
}

func TestCanonical(t *testing.T) {
	for in, want := range map[string]string{
		"":                                   "",
		"|":                                  "|",
		"1":                                  "1",
		"2; 1, 5; null; 1":                   "null; 1; 1, 5; 2",
		"2; 1; 2; 1":                         "1; 1; 2; 2",
		"'a', 1; |; 'a'; true; 10; 9; |":     "|; |; 9; 10; true; 'a'; 'a', 1",
		"1, 'b'; 1, 'a'; 1, null; 0, 'c'; 1": "0, 'c'; 1; 1, null; 1, 'a'; 1, 'b'",
	} {
		l, e := rows.Canonical(list(in))
		if shown(l) != want || e != api.OK {
			t.Errorf("%s: %s, %v, not %s", in, shown(l), e, want)
		}
	}
	falling := rising()
	slices.Reverse(falling)
	if l, e := rows.Canonical(falling); !equal(l, rising()) || e != api.OK {
		t.Errorf("all, turned round: %s, %v", shown(l), e)
	}
}

func TestSameAndTimes(t *testing.T) {
	for _, c := range []struct {
		a, b string
		want bool
	}{
		{"", "", true},
		{"|", "|", true},
		{"", "|", false},
		{"|", "", false},
		{"1; 2; 1", "2; 1; 1", true},
		{"1; 2; 1", "2; 2; 1", false},
		{"1; 2; 1", "1; 2", false},
		{"1; 2", "1; 2; 1", false},
		{"1; 2", "1; 3", false},
		{"null", "null", true},
		{"null", "null, null", false},
		{"1", "'1'", false},
		{"1", "true", false},
		{"'a', 'b'", "'ab'", false},
		{"'a', 'b'", "'a''', '''b'", false},
		{"1, 2", "2, 1", false},
	} {
		if is, e := rows.Same(list(c.a), list(c.b)); is != c.want || e != api.OK {
			t.Errorf("Same of %s and %s: %v, %v", c.a, c.b, is, e)
		}
	}
	// Rows with one text and rows with more, which look alike but for the quotes.
	apart := []row{{text("a', 'b")}, {text("a"), text("b")}, {text("a"), text(" 'b")}, {text("a, b")}, {text("")}, {text("''")}, {text(", ")}}
	for i, a := range apart {
		for j, b := range apart {
			if is, e := rows.Same([]row{a}, []row{b}); is != (i == j) || e != api.OK {
				t.Errorf("Same of %s and %s: %v, %v", shown([]row{a}), shown([]row{b}), is, e)
			}
		}
	}
	l := list("1; |; 2; 1; 1, 2; null; 1; |; '1'")
	for s, want := range map[string]int{"1": 3, "|": 2, "2": 1, "1, 2": 1, "null": 1, "'1'": 1, "3": 0, "2, 1": 0, "null, null": 0, "true": 0} {
		if n, e := rows.Times(l, list(s)[0]); n != want || e != api.OK {
			t.Errorf("Times of %s: %d, %v, not %d", s, n, e, want)
		}
	}
	if n, e := rows.Times(nil, nil); n != 0 || e != api.OK {
		t.Errorf("Times of no rows: %d, %v", n, e)
	}
	if n, e := rows.Times(many(api.MaxRows, row{yes}), row{yes}); n != api.MaxRows || e != api.OK {
		t.Errorf("Times of MaxRows rows: %d, %v", n, e)
	}
}

// P2.3

func TestSets(t *testing.T) {
	for _, c := range []struct{ a, b, distinct, both, bothAll, minus, minusAll string }{
		{"", "", "", "", "", "", ""},
		{"1; 1; 2", "1; 3", "1; 2", "1", "1", "2", "1; 2"},
		{"1; 3", "1; 1; 2", "1; 3", "1", "1", "3", "3"},
		{"1; 1; 2", "1; 1; 1", "1; 2", "1", "1; 1", "2", "2"},
		{"2; 1; 2; 1; 1", "", "1; 2", "", "", "1; 2", "1; 1; 1; 2; 2"},
		{"", "1; 1", "", "", "", "", ""},
		{"null; 1; null", "null", "null; 1", "null", "null", "1", "null; 1"},
		{"|; |; 1", "|", "|; 1", "|", "|", "1", "|; 1"},
		{"1, 2; 1; 1, 2", "1, 2", "1; 1, 2", "1, 2", "1, 2", "1", "1; 1, 2"},
		{"'b'; 'a'; 'b'; 'c'; 'b'", "'b'; 'c'; 'b'; 'c'", "'a'; 'b'; 'c'", "'b'; 'c'", "'b'; 'b'; 'c'", "'a'", "'a'; 'b'"},
	} {
		a, b := list(c.a), list(c.b)
		expect := func(name, want string, l []row, e api.Errno) {
			if shown(l) != want || e != api.OK {
				t.Errorf("%s of %s and %s: %s, %v, not %s", name, c.a, c.b, shown(l), e, want)
			}
		}
		l, e := rows.Distinct(a)
		expect("Distinct", c.distinct, l, e)
		l, e = rows.Both(a, b, false)
		expect("Both", c.both, l, e)
		l, e = rows.Both(a, b, true)
		expect("Both, all,", c.bothAll, l, e)
		l, e = rows.Minus(a, b, false)
		expect("Minus", c.minus, l, e)
		l, e = rows.Minus(a, b, true)
		expect("Minus, all,", c.minusAll, l, e)
	}
}

func TestSetsByTimes(t *testing.T) {
	of := list("|; null; 1; 1, 2")
	lists(of, 3, func(a []row) {
		lists(of, 3, func(b []row) {
			for _, all := range []bool{false, true} {
				both, e := rows.Both(a, b, all)
				minus, f := rows.Minus(a, b, all)
				if e != api.OK || f != api.OK {
					t.Fatalf("%s and %s: %v, %v", shown(a), shown(b), e, f)
				}
				var wantBoth, wantMinus []row
				for _, r := range of {
					n, m := times(a, r), times(b, r)
					inBoth, inMinus := min(n, m), max(0, n-m)
					if !all {
						inBoth, inMinus = min(1, inBoth), min(1, n)-min(1, n, m)
					}
					wantBoth = append(wantBoth, many(inBoth, r)...)
					wantMinus = append(wantMinus, many(inMinus, r)...)
				}
				if !equal(both, wantBoth) || !equal(minus, wantMinus) {
					t.Fatalf("%s and %s, %v: Both %s, Minus %s", shown(a), shown(b), all, shown(both), shown(minus))
				}
			}
		})
	})
}

// P2.4

func TestGroups(t *testing.T) {
	for _, c := range []struct {
		l    string
		by   []int
		want string
	}{
		{"1, 'a'; 2, 'a'; 1, 'b'", []int{0}, "1, 'a'; 1, 'b' / 2, 'a'"},
		{"1, 'a'; 2, 'a'; 1, 'b'", []int{1}, "1, 'a'; 2, 'a' / 1, 'b'"},
		{"1, 'a'; 2, 'a'; 1, 'b'", []int{1, 0}, "1, 'a' / 2, 'a' / 1, 'b'"},
		{"1, 'a'; 2, 'a'; 1, 'b'", []int{0, 1}, "1, 'a' / 1, 'b' / 2, 'a'"},
		{"1, 'a'; 2, 'a'; 1, 'b'", []int{1, 1, 0, 1, 0}, "1, 'a' / 2, 'a' / 1, 'b'"},
		{"2; 1; 1, 5", nil, "1; 1, 5; 2"},
		{"2; |; 1", nil, "|; 1; 2"},
		{"|", nil, "|"},
		{"null, 2; 1, 1; null, 1; null, 2", []int{0}, "null, 1; null, 2; null, 2 / 1, 1"},
		{"true; 1; 'a'; null; 1", []int{0}, "null / 1; 1 / true / 'a'"},
		{"3, 1; 1, 1, 1; 2, 1; 1, 0", []int{1}, "1, 0 / 1, 1, 1; 2, 1; 3, 1"},
	} {
		g, e := rows.Groups(list(c.l), c.by)
		if groupsShown(g) != c.want || e != api.OK {
			t.Errorf("%s by %v: %s, %v, not %s", c.l, c.by, groupsShown(g), e, c.want)
		}
	}
}

func TestOrdered(t *testing.T) {
	up := func(col int) api.Key { return api.Key{Col: col} }
	down := func(col int) api.Key { return api.Key{Col: col, Desc: true} }
	for _, c := range []struct {
		l    string
		keys []api.Key
		want string
	}{
		{"1, 2; 2, 1; 1, 1", []api.Key{down(1)}, "1, 2; 1, 1; 2, 1"},
		{"1, 2; 2, 1; 1, 1", []api.Key{up(1)}, "1, 1; 2, 1; 1, 2"},
		{"1, 2; 2, 1; 1, 1", []api.Key{down(0)}, "2, 1; 1, 1; 1, 2"},
		{"1, 2; 2, 1; 1, 1", []api.Key{up(1), down(0)}, "2, 1; 1, 1; 1, 2"},
		{"1, 2; 2, 1; 1, 1", []api.Key{down(0), down(1)}, "2, 1; 1, 2; 1, 1"},
		{"1, 2; 2, 1; 1, 1", []api.Key{down(1), up(1)}, "1, 2; 1, 1; 2, 1"},
		{"1, 2; 2, 1; 1, 1", []api.Key{up(1), down(1), down(0), up(0)}, "2, 1; 1, 1; 1, 2"},
		{"2; 1, 5; |; null; 1; 1", nil, "|; null; 1; 1; 1, 5; 2"},
		{"1; null; 'a'; true; 1", []api.Key{down(0)}, "'a'; true; 1; 1; null"},
		{"1; null; 'a'; true; 1", []api.Key{up(0)}, "null; 1; 1; true; 'a'"},
		{"1, 1, 1; 1, 1; 1, null, 7", []api.Key{down(1)}, "1, 1; 1, 1, 1; 1, null, 7"},
	} {
		l, e := rows.Ordered(list(c.l), c.keys)
		if shown(l) != c.want || e != api.OK {
			t.Errorf("%s by %v: %s, %v, not %s", c.l, c.keys, shown(l), e, c.want)
		}
	}
}

func TestPlaces(t *testing.T) {
	for _, c := range []struct {
		l  string
		by []int
		ok bool
	}{
		{"", nil, true},
		{"", []int{0, 7, -1, math.MaxInt, math.MinInt, api.MaxCols}, true},
		{"1", []int{0}, true},
		{"1", []int{1}, false},
		{"1", []int{-1}, false},
		{"1", []int{math.MaxInt}, false},
		{"1", []int{math.MinInt}, false},
		{"1", []int{0, 0, 1}, false},
		{"1", []int{-1, 0}, false},
		{"|", []int{0}, false},
		{"|", nil, true},
		{"1, 2; 1", []int{1}, false},
		{"1; 1, 2", []int{1}, false},
		{"1; 1, 2", []int{0}, true},
		{"1, 2; |; 1, 2", []int{0}, false},
	} {
		l := list(c.l)
		var keys []api.Key
		for _, at := range c.by {
			keys = append(keys, api.Key{Col: at, Desc: at%2 == 0})
		}
		want := api.ErrArg
		if c.ok {
			want = api.OK
		}
		g, e := rows.Groups(l, c.by)
		o, f := rows.Ordered(l, keys)
		if e != want || f != want {
			t.Errorf("%s by %v: %v, %v, not %v", c.l, c.by, e, f, want)
		}
		if (len(l) == 0 || !c.ok) && len(g)+len(o) != 0 {
			t.Errorf("%s by %v: %s, %s", c.l, c.by, groupsShown(g), shown(o))
		}
	}
	wide := []row{slices.Repeat(row{two}, api.MaxCols), slices.Repeat(row{one}, api.MaxCols)}
	if g, e := rows.Groups(wide, []int{api.MaxCols - 1}); len(g) != 2 || e != api.OK {
		t.Errorf("the last place: %d groups, %v", len(g), e)
	}
	if g, e := rows.Groups(wide, []int{api.MaxCols}); len(g) != 0 || e != api.ErrArg {
		t.Errorf("behind the last place: %d groups, %v", len(g), e)
	}
}

// As many keys as one likes may be given: of those with one column only the first one counts.
func TestManyKeys(t *testing.T) {
	l := make([]row, api.MaxRows)
	for i := range l {
		l[i] = row{one, number(int64(i % 2))}
	}
	keys := make([]api.Key, 1<<20)
	by := make([]int, 1<<20)
	keys[1<<20-1] = api.Key{Col: 1, Desc: true}
	by[1<<20-1] = 1
	o, e := rows.Ordered(l, keys)
	g, f := rows.Groups(l, by)
	if e != api.OK || f != api.OK || len(g) != 2 || len(o) != api.MaxRows || o[0][1] != one || g[0][0][1] != number(0) {
		t.Errorf("%v, %v: %d groups, %d rows", e, f, len(g), len(o))
	}
}

// P2.5

func TestString(t *testing.T) {
	for _, c := range []struct {
		l    []row
		want string
	}{
		{nil, ""},
		{[]row{}, ""},
		{[]row{nil}, "()\n"},
		{[]row{{}, nil}, "()\n()\n"},
		{[]row{{one, text("a")}, nil}, "(1, 'a')\n()\n"},
		{[]row{{null, yes, no, number(-5)}}, "(null, true, false, -5)\n"},
		{[]row{{two}, {one}, {two}}, "(2)\n(1)\n(2)\n"},
		{[]row{{text("it's, (1)"), text("")}, {text("'")}}, "('it''s, (1)', '')\n('''')\n"},
	} {
		if s, e := rows.String(c.l); s != c.want || e != api.OK {
			t.Errorf("%s: %q, %v, not %q", shown(c.l), s, e, c.want)
		}
		if l, e := rows.Parse(c.want); !equal(l, c.l) || e != api.OK {
			t.Errorf("%q: %s, %v, not %s", c.want, shown(l), e, shown(c.l))
		}
	}
}

func TestParseNone(t *testing.T) {
	for _, s := range []string{
		"\n", " ", "(", ")", "()", "(\n", ")\n", ")(\n", "()\n\n", "\n()\n", "() \n", " ()\n", "( )\n", "()x\n", "x()\n", "()\r\n", "()()\n", "(())\n",
		"(1)", "1\n", "(1\n", "1)\n", "(1)\n\n", "(1)\n(2)", "(1)(2)\n", "[1]\n", "((1))\n", "(1) \n", "( 1)\n", "(1 )\n",
		"(1,2)\n", "(1,  2)\n", "(1 , 2)\n", "(1 2)\n", "(1, 2,)\n", "(1, )\n", "(1,)\n", "(,)\n", "(, 1)\n", "(, )\n", "(1, , 2)\n", "(1,\t2)\n",
		"(01)\n", "(+1)\n", "(-0)\n", "(a)\n", "(NULL)\n", "(1.0)\n", "(nullnull)\n", "(9223372036854775808)\n",
		"(')\n", "(''')\n", "('a)\n", "(a')\n", "('a'b')\n", "('a''b)\n", "('a' 'b')\n", "('a''', b)\n", "('a'1)\n", "('a\nb')\n", "('\t')\n", "('\xff')\n",
		"(1, 'a)\n('b', 2)\n",
		"('" + strings.Repeat("a", api.MaxText+1) + "')\n",
		"(" + strings.Repeat("1, ", api.MaxCols) + "1)\n",
		"()\n(" + strings.Repeat("1, ", 5000) + "1)\n",
		strings.Repeat("()\n", 6000) + "x",
		strings.Repeat("(", api.MaxString),
		strings.Repeat("\n", api.MaxString),
	} {
		if l, e := rows.Parse(s); len(l) != 0 || e != api.ErrRows {
			t.Errorf("%.60q: %s, %v, not ErrRows", s, shown(l), e)
		}
	}
	for _, s := range []string{
		strings.Repeat("\n", api.MaxString+1),
		strings.Repeat("()\n", api.MaxString/3+1),
		strings.Repeat("x", 1<<20),
	} {
		if l, e := rows.Parse(s); len(l) != 0 || e != api.ErrLarge {
			t.Errorf("%d bytes: %d rows, %v, not ErrLarge", len(s), len(l), e)
		}
	}
}

func TestLongStrings(t *testing.T) {
	l := append(many(api.MaxString/4-1, row{one}), row{number(-1)}) // each row 4 bytes, the last one 5
	if s, e := rows.String(l); s != "" || e != api.ErrLarge {
		t.Errorf("MaxString + 1 bytes: %d bytes, %v", len(s), e)
	}
	if s, e := rows.String(append(slices.Clone(l), row{none})); s != "" || e != api.ErrValue {
		t.Errorf("a none behind them: %d bytes, %v", len(s), e)
	}
	l[len(l)-1] = row{two}
	s, e := rows.String(l)
	if len(s) != api.MaxString || e != api.OK {
		t.Fatalf("MaxString bytes: %d bytes, %v", len(s), e)
	}
	if back, e := rows.Parse(s); !equal(back, l) || e != api.OK {
		t.Errorf("MaxString bytes: %d rows, %v", len(back), e)
	}
	wide := []row{slices.Repeat(row{text(strings.Repeat("'", api.MaxText))}, api.MaxCols)}
	s, _ = rows.String(wide)
	if back, e := rows.Parse(s); !equal(back, wide) || e != api.OK || len(s) != 1+api.MaxCols*404-2+2 {
		t.Errorf("MaxCols texts: %d bytes, %v", len(s), e)
	}
	if s, e := rows.String(many(api.MaxRows, slices.Repeat(wide[0], 1))); s != "" || e != api.ErrLarge {
		t.Errorf("all limits: %d bytes, %v", len(s), e)
	}
}

// P2.6

func TestBags(t *testing.T) {
	of := list("|; 1; 1, null; 'a'")
	var all [][]row
	lists(of, 3, func(l []row) {
		all = append(all, l)
		c, e := rows.Canonical(l)
		again, f := rows.Canonical(c)
		if e != api.OK || f != api.OK || !equal(c, again) {
			t.Fatalf("%s: %s, then %s; %v, %v", shown(l), shown(c), shown(again), e, f)
		}
		slices.Reverse(l)
		if turned, _ := rows.Canonical(l); !equal(c, turned) {
			t.Fatalf("%s turned round: %s, not %s", shown(l), shown(turned), shown(c))
		}
	})
	for _, a := range all {
		for _, b := range all {
			is, _ := rows.Same(a, b)
			turned, _ := rows.Same(b, a)
			ca, _ := rows.Canonical(a)
			cb, _ := rows.Canonical(b)
			byTimes := true
			for _, r := range of {
				n, _ := rows.Times(a, r)
				m, _ := rows.Times(b, r)
				byTimes = byTimes && n == m
			}
			if is != turned || is != byTimes || is != equal(ca, cb) {
				t.Fatalf("%s and %s: %v, turned round %v, by times %v", shown(a), shown(b), is, turned, byTimes)
			}
		}
	}
}

// P2.7 and P2.8

func TestTogether(t *testing.T) {
	lists(list("1, null; 1, 2; 2, 2"), 3, func(a []row) {
		lists(list("1, 2; 2, 2; 3, 2"), 3, func(b []row) {
			for _, all := range []bool{false, true} {
				both, _ := rows.Both(a, b, all)
				minus, _ := rows.Minus(a, b, all)
				want := a
				if !all {
					want, _ = rows.Distinct(a)
				}
				if is, e := rows.Same(append(both, minus...), want); !is || e != api.OK {
					t.Fatalf("%s and %s, %v: %s and %s", shown(a), shown(b), all, shown(both), shown(minus))
				}
			}
		})
		for _, by := range [][]int{nil, {0}, {1}, {1, 0}, {0, 0}} {
			g, e := rows.Groups(a, by)
			var whole []row
			for _, l := range g {
				whole = append(whole, l...)
			}
			if is, _ := rows.Same(whole, a); !is || e != api.OK {
				t.Fatalf("%s by %v: %s", shown(a), by, groupsShown(g))
			}
		}
	})
}

// P2.9

func TestThereAndBack(t *testing.T) {
	l := rising()
	for i, r := range l {
		for _, m := range [][]row{{r}, {r, r}, l[i:], {l[len(l)-1-i], r, nil}} {
			s, e := rows.String(m)
			back, f := rows.Parse(s)
			if !equal(back, m) || e != api.OK || f != api.OK {
				t.Errorf("%s: %q, %s, %v, %v", shown(m), s, shown(back), e, f)
			}
		}
	}
}

// All short strings of bytes that rows are written with: those that Parse takes are written again as they were.
func TestBackAndThere(t *testing.T) {
	taken := map[string]bool{}
	var below func(s string, most int, of string)
	below = func(s string, most int, of string) {
		l, e := rows.Parse(s)
		if e == api.OK {
			taken[s] = true
			if back, e := rows.String(l); back != s || e != api.OK {
				t.Errorf("%q: %s, %q, %v", s, shown(l), back, e)
			}
		} else if e != api.ErrRows || len(l) != 0 {
			t.Errorf("%q: %s, %v", s, shown(l), e)
		}
		if len(s) < most {
			for _, b := range of {
				below(s+string(b), most, of)
			}
		}
	}
	below("", 7, "()1, \n")
	// In up to 7 bytes there are: no rows; one of the rows (), (1), (11), (111), (1111), (1, 1); twice (), or () and (1) in
	// both orders.
	if want := 1 + 6 + 3; len(taken) != want {
		t.Errorf("%d strings are taken, not %d: %v", len(taken), want, taken)
	}
}

// The largest lists, of rows that differ late.
func TestLargest(t *testing.T) {
	alike := strings.Repeat("a", api.MaxText-5)
	l := make([]row, api.MaxRows)
	for i := range l {
		last := string([]byte{'0' + byte(i/10000), '0' + byte(i/1000%10), '0' + byte(i/100%10), '0' + byte(i/10%10), '0' + byte(i%10)})
		l[api.MaxRows-1-i] = slices.Repeat(row{text(alike + last)}, api.MaxCols)
	}
	c, e := rows.Canonical(l)
	slices.Reverse(l)
	if !equal(c, l) || e != api.OK {
		t.Errorf("Canonical: %d rows, %v", len(c), e)
	}
	if m, e := rows.Minus(l, l[1:], true); !equal(m, l[:1]) || e != api.OK {
		t.Errorf("Minus: %d rows, %v", len(m), e)
	}
	if g, e := rows.Groups(l, []int{api.MaxCols - 1}); len(g) != api.MaxRows || e != api.OK {
		t.Errorf("Groups: %d, %v", len(g), e)
	}
}
