package base_test

import (
	"math/rand/v2"
	"slices"
	"strings"
	"testing"

	"tactician/api"
	"tactician/base"
	"tactician/rows"
)

type row = []api.Value

var (
	null = api.Value{}
	yes  = api.Value{Kind: api.Bool, Int: 1}
	one  = number(1)
	none = api.Value{Kind: api.Null, Int: 1}
)

func number(n int64) api.Value { return api.Value{Kind: api.Int, Int: n} }

func words(s string) api.Value { return api.Value{Kind: api.Text, Text: s} }

// shop is a base with all that bases have: keys of one to three columns, references in other orders than these, and indexes.
const shop = "table city (name text, land text, size int) key (name, land) key (size) index cities (size)\n" +
	"table item (id int, colour text, new bool, rest int null, note text null) key (id) key (id, colour, new) " +
	"ref (note, colour) city 0 index newest (new, id) index all_of_it (rest, note, new, colour, id)\n" +
	"table sale (land text null, town text null, is_new bool null, thing int null, n int) " +
	"ref (town, land) city 0 ref (thing) item 0 ref (thing, land, is_new) item 1 ref (n) item 0 index x (thing)\n"

// read returns the base with a string.
func read(s string) api.Base {
	b, e := base.Parse(s)
	if e != api.OK {
		panic(s)
	}
	return b
}

// list reads rows that are written with ; between them.
func list(s string) []row {
	var lines string
	for _, w := range strings.Split(s, ";") {
		if w != "" {
			lines += "(" + strings.TrimSpace(w) + ")\n"
		}
	}
	l, e := rows.Parse(lines)
	if e != api.OK {
		panic(s)
	}
	return l
}

func lists(tables ...string) api.Data {
	var d api.Data
	for _, s := range tables {
		d.Rows = append(d.Rows, list(s))
	}
	return d
}

func shopData() api.Data {
	return lists(
		"'Rome', 'it', 5; 'Bonn', 'de', 3; 'Rome', 'us', 4",
		"7, 'it', true, null, 'Rome'; 2, 'de', true, 1, null; 9, 'us', false, 1, 'Rome'; 4, 'xx', true, null, null",
		"'it', 'Rome', true, 7, 2; null, 'Oslo', null, null, 9; 'us', 'Rome', false, null, 4; 'us', 'Rome', false, null, 4; "+
			"null, null, true, 2, 7; 'it', 'Rome', null, 9, 2",
	)
}

func shown(l []row) string {
	s, e := rows.String(l)
	if e != api.OK {
		panic(e)
	}
	return strings.Trim(strings.ReplaceAll(s, ")\n(", "; "), "()\n")
}

func shownData(d api.Data) string {
	var out []string
	for _, l := range d.Rows {
		out = append(out, shown(l))
	}
	return strings.Join(out, " | ")
}

func same(a, b []row) bool {
	return slices.EqualFunc(a, b, func(x, y row) bool { return slices.Equal(x, y) })
}

func sameData(a, b api.Data) bool { return slices.EqualFunc(a.Rows, b.Rows, same) }

func deep(d api.Data) api.Data {
	var out api.Data
	for _, l := range d.Rows {
		var rows []row
		for _, r := range l {
			rows = append(rows, slices.Clone(r))
		}
		out.Rows = append(out.Rows, rows)
	}
	return out
}

func many(n int, of func(i int) row) []row {
	out := make([]row, n)
	for i := range out {
		out[i] = of(i)
	}
	return out
}

func bag(l []row) string {
	c, e := rows.Canonical(l)
	if e != api.OK {
		panic(e)
	}
	return shown(c)
}

// before tells whether a comes before b by cols, rising, then in the order of rows.
func before(a, b row, cols []int) bool {
	for _, c := range cols {
		if n, _ := rows.Compare(row{a[c]}, row{b[c]}); n != 0 {
			return n < 0
		}
	}
	n, _ := rows.Compare(a, b)
	return n < 0
}

// TestExamples has the chapter's examples.
func TestExamples(t *testing.T) {
	b := read("table t (a int, b text null) key (a) index i (b, a)\ntable u (c int null) ref (c) t 0\n")
	d := lists("1, null; 2, 'x'", "null; 2")
	if e := base.CheckData(b, d); e != api.OK {
		t.Errorf("right data: %v", e)
	}
	for _, wrong := range []api.Data{lists("1, null; 1, 'x'", ""), lists("1, null; 2, 'x'", "null; 2; 3")} {
		if e := base.CheckData(b, wrong); e != api.ErrData {
			t.Errorf("%s: %v", shownData(wrong), e)
		}
	}
	if l, e := base.Scan(b, d, "i"); shown(l) != "1, null; 2, 'x'" || e != api.OK {
		t.Errorf("Scan: %s, %v", shown(l), e)
	}
	if out, e := base.Delete(b, d, "t", list("2, 'x'")); len(out.Rows) != 0 || e != api.ErrData {
		t.Errorf("Delete: %v, %v", out, e)
	}
	if out, e := base.Delete(b, lists("1, null; 2, 'x'", "null"), "t", list("2, 'x'")); shownData(out) != "1, null | null" || e != api.OK {
		t.Errorf("Delete: %v, %v", out, e)
	}
}

// P5.1

func TestFindAndCols(t *testing.T) {
	b := read(shop)
	for i, want := range []struct {
		name string
		cols []api.Col
	}{
		{"city", []api.Col{{Kind: api.Text}, {Kind: api.Text}, {Kind: api.Int}}},
		{"item", []api.Col{{Kind: api.Int}, {Kind: api.Text}, {Kind: api.Bool}, {Kind: api.Int, Null: true}, {Kind: api.Text, Null: true}}},
		{"sale", []api.Col{{Kind: api.Text, Null: true}, {Kind: api.Text, Null: true}, {Kind: api.Bool, Null: true}, {Kind: api.Int, Null: true}, {Kind: api.Int}}},
	} {
		if at, e := base.Find(b, want.name); at != i || e != api.OK {
			t.Errorf("Find %s: %d, %v", want.name, at, e)
		}
		if cols, e := base.Cols(b, want.name); !slices.Equal(cols, want.cols) || e != api.OK {
			t.Errorf("Cols of %s: %v, %v", want.name, cols, e)
		}
	}
	for _, name := range []string{"", "cit", "citys", "City", "name", "cities", "x", "select", "city ", strings.Repeat("a", 1000)} {
		if at, e := base.Find(b, name); at != 0 || e != api.ErrNone {
			t.Errorf("Find %q: %d, %v", name, at, e)
		}
		if cols, e := base.Cols(b, name); len(cols) != 0 || e != api.ErrNone {
			t.Errorf("Cols of %q: %v, %v", name, cols, e)
		}
	}
	if at, e := base.Find(api.Base{}, "t"); at != 0 || e != api.ErrNone {
		t.Errorf("Find in no tables: %d, %v", at, e)
	}
}

func TestRows(t *testing.T) {
	b, d := read(shop), shopData()
	for name, want := range map[string]string{
		"city": "'Bonn', 'de', 3; 'Rome', 'it', 5; 'Rome', 'us', 4",
		"item": "2, 'de', true, 1, null; 4, 'xx', true, null, null; 7, 'it', true, null, 'Rome'; 9, 'us', false, 1, 'Rome'",
		"sale": "null, null, true, 2, 7; null, 'Oslo', null, null, 9; 'it', 'Rome', null, 9, 2; 'it', 'Rome', true, 7, 2; " +
			"'us', 'Rome', false, null, 4; 'us', 'Rome', false, null, 4",
	} {
		if l, e := base.Rows(b, d, name); shown(l) != want || e != api.OK {
			t.Errorf("%s: %s, %v", name, shown(l), e)
		}
	}
	if l, e := base.Rows(b, lists("", "", ""), "item"); len(l) != 0 || e != api.OK {
		t.Errorf("no rows: %v, %v", l, e)
	}
	// A column may be called as the table is not, and an index as no table is.
	for _, name := range []string{"", "id", "newest", "x"} {
		if l, e := base.Rows(b, d, name); len(l) != 0 || e != api.ErrNone {
			t.Errorf("%q: %v, %v", name, l, e)
		}
	}
}

// The errors of all calls, and which of them comes first.

// call is a call of a function of the package; zero is whether the other results are zero values.
type call func(b api.Base, d api.Data, name string, l []row) (zero bool, e api.Errno)

func withBase() map[string]call {
	return map[string]call{
		"Check": func(b api.Base, _ api.Data, _ string, _ []row) (bool, api.Errno) { return true, base.Check(b) },
		"Find": func(b api.Base, _ api.Data, name string, _ []row) (bool, api.Errno) {
			at, e := base.Find(b, name)
			return at == 0, e
		},
		"Cols": func(b api.Base, _ api.Data, name string, _ []row) (bool, api.Errno) {
			cols, e := base.Cols(b, name)
			return len(cols) == 0, e
		},
		"String": func(b api.Base, _ api.Data, _ string, _ []row) (bool, api.Errno) {
			s, e := base.String(b)
			return s == "", e
		},
	}
}

func withData() map[string]call {
	return map[string]call{
		"CheckData": func(b api.Base, d api.Data, _ string, _ []row) (bool, api.Errno) { return true, base.CheckData(b, d) },
		"Rows": func(b api.Base, d api.Data, name string, _ []row) (bool, api.Errno) {
			l, e := base.Rows(b, d, name)
			return len(l) == 0, e
		},
		"Scan": func(b api.Base, d api.Data, name string, _ []row) (bool, api.Errno) {
			l, e := base.Scan(b, d, name)
			return len(l) == 0, e
		},
		"Insert": func(b api.Base, d api.Data, name string, l []row) (bool, api.Errno) {
			out, e := base.Insert(b, d, name, l)
			return len(out.Rows) == 0, e
		},
		"Delete": func(b api.Base, d api.Data, name string, l []row) (bool, api.Errno) {
			out, e := base.Delete(b, d, name, l)
			return len(out.Rows) == 0, e
		},
	}
}

func TestOrderOfErrors(t *testing.T) {
	right, noBase := read(shop), read(shop)
	noBase.Tables[2].Name = "select"
	d, wrong := shopData(), shopData()
	wrong.Rows[2][0][4] = null
	large := many(api.MaxRows+1, func(int) row { return row{none} })
	for name, f := range withBase() {
		if zero, e := f(noBase, d, "nowhere", nil); !zero || e != api.ErrBase {
			t.Errorf("%s of no base: %v, zero: %v", name, e, zero)
		}
	}
	for name, f := range withData() {
		for _, x := range []api.Data{d, wrong, {}} {
			if zero, e := f(noBase, x, "nowhere", large); !zero || e != api.ErrBase {
				t.Errorf("%s of no base: %v, zero: %v", name, e, zero)
			}
		}
		for _, x := range []api.Data{wrong, {}} {
			for _, table := range []string{"city", "nowhere"} {
				if zero, e := f(right, x, table, large); !zero || e != api.ErrData {
					t.Errorf("%s of wrong data, %s: %v, zero: %v", name, table, e, zero)
				}
			}
		}
		if name == "CheckData" {
			continue
		}
		for _, l := range [][]row{nil, large, {{}}} {
			if zero, e := f(right, d, "nowhere", l); !zero || e != api.ErrNone {
				t.Errorf("%s of nothing: %v, zero: %v", name, e, zero)
			}
		}
	}
}

// P5.2

func TestInsert(t *testing.T) {
	b := read("table t (a int, b text null) key (a)\ntable u (c int null) ref (c) t 0\n")
	for _, c := range []struct{ data, name, in, want string }{
		{"1, 'x' | 1", "t", "", "1, 'x' | 1"},
		{"1, 'x' | 1", "t", "0, null; 5, 'x'", "1, 'x'; 0, null; 5, 'x' | 1"},
		{"1, 'x' | 1", "u", "1; null; 1", "1, 'x' | 1; 1; null; 1"},
		{" | ", "t", "2, 'b'; 1, 'a'", "2, 'b'; 1, 'a' | "},
		{"1, 'x' | 1", "t", "1, 'y'", "no"},
		{"1, 'x' | 1", "t", "1, 'x'", "no"},
		{"1, 'x' | 1", "t", "2, 'x'; 2, 'y'", "no"},
		{"1, 'x' | 1", "t", "null, 'x'", "no"},
		{"1, 'x' | 1", "t", "2", "no"},
		{"1, 'x' | 1", "t", "2, 'x', 'x'", "no"},
		{"1, 'x' | 1", "t", "'2', 'x'", "no"},
		{"1, 'x' | 1", "t", "2, 2", "no"},
		{"1, 'x' | 1", "u", "2", "no"},
		{"1, 'x' | 1", "u", "null; 1; 0", "no"},
	} {
		first, second, _ := strings.Cut(c.data, " | ")
		out, e := base.Insert(b, lists(strings.TrimSpace(first), second), c.name, list(c.in))
		if c.want == "no" && (e != api.ErrData || len(out.Rows) != 0) || c.want != "no" && (e != api.OK || shownData(out) != c.want) {
			t.Errorf("%s, %s into %s: %s, %v", c.data, c.in, c.name, shownData(out), e)
		}
	}
	for _, r := range []row{nil, {none, null}, {one, none}, slices.Repeat(row{one}, api.MaxCols+1), {one, words(strings.Repeat("a", api.MaxText+1))}} {
		if out, e := base.Insert(b, lists("", ""), "t", []row{r}); e != api.ErrData || len(out.Rows) != 0 {
			t.Errorf("%v: %v, %v", r, out, e)
		}
	}
}

func TestDelete(t *testing.T) {
	b := read("table t (a int, b text null) key (a)\ntable u (c int null) ref (c) t 0\n")
	for _, c := range []struct{ data, name, in, want string }{
		{"1, 'x'; 2, null | 1", "t", "", "1, 'x'; 2, null | 1"},
		{"1, 'x'; 2, null | 1", "t", "2, null", "1, 'x' | 1"},
		{"1, 'x'; 2, null | 1", "t", "2, 'x'; 3, null; 1, null", "1, 'x'; 2, null | 1"},
		{"1, 'x'; 2, null | 1", "t", "2; 1; |; 2, null, null; null, 2; 'x', 1", "1, 'x'; 2, null | 1"},
		{"1, 'x'; 2, null | ", "t", "2, null; 1, 'x'; 2, null", " | "},
		{"1, 'x'; 2, null | 1; 2; 1; null; 1; 2; null", "u", "1", "1, 'x'; 2, null | 2; 1; null; 1; 2; null"},
		{"1, 'x'; 2, null | 1; 2; 1; null; 1; 2; null", "u", "null; 1; 2; 1", "1, 'x'; 2, null | 1; 2; null"},
		{"1, 'x'; 2, null | 1; 2; 1; null; 1; 2; null", "u", "2; 2; 2; 2", "1, 'x'; 2, null | 1; 1; null; 1; null"},
		{"1, 'x'; 2, null | 1; 2", "u", "true; '1'; 1; '2'", "1, 'x'; 2, null | 2"},
		{"1, 'x'; 2, null | 1; null", "t", "1, 'x'", "no"},
		{"1, 'x'; 2, null | 1; null", "t", "2, null; 1, 'x'", "no"},
	} {
		first, second, _ := strings.Cut(c.data, " | ")
		var l []row
		for _, s := range strings.Split(c.in, "; ") {
			if s == "|" {
				l = append(l, row{})
			} else {
				l = append(l, list(s)...)
			}
		}
		out, e := base.Delete(b, lists(first, second), c.name, l)
		if c.want == "no" && (e != api.ErrData || len(out.Rows) != 0) || c.want != "no" && (e != api.OK || shownData(out) != c.want) {
			t.Errorf("%s, %s out of %s: %s, %v", c.data, c.in, c.name, shownData(out), e)
		}
	}
	// What is no row is none of the table, whatever its values are.
	odd := []row{nil, {none, null}, {one, none}, slices.Repeat(row{one}, api.MaxCols+1), {one, words("a\n")}, {one, {Kind: 7, Text: "x"}}}
	d := lists("1, 'x'", "1")
	if out, e := base.Delete(b, d, "t", odd); e != api.OK || !sameData(out, d) {
		t.Errorf("odd rows: %s, %v", shownData(out), e)
	}
	// Rows whose texts look like several values.
	b = read("table t (a text, b text null)\n")
	l := []row{{words("a"), words("b', 'c")}, {words("a', 'b"), words("c")}, {words("null"), null}, {words("null"), words("null")}}
	for i := range l {
		want := slices.Delete(slices.Clone(l), i, i+1)
		if out, e := base.Delete(b, api.Data{Rows: [][]row{l}}, "t", []row{l[i]}); e != api.OK || !same(out.Rows[0], want) {
			t.Errorf("%v: %v, %v", l[i], out, e)
		}
	}
	// Rows with the longest strings that there are.
	b = read("table t (" + strings.Join(slices.Collect(columnStrings(api.MaxCols, " text")), ", ") + ")\n")
	long := slices.Repeat(row{words(strings.Repeat("'", api.MaxText))}, api.MaxCols)
	other := slices.Clone(long)
	other[api.MaxCols-1] = words("")
	if out, e := base.Delete(b, api.Data{Rows: [][]row{{other, long, long}}}, "t", []row{long}); e != api.OK || !same(out.Rows[0], []row{other, long}) {
		t.Errorf("long texts: %d rows, %v", len(out.Rows[0]), e)
	}
}

func TestChangesOfManyRows(t *testing.T) {
	b := read("table t (a int)\n")
	full := many(api.MaxRows, func(i int) row { return row{number(int64(i / 2))} })
	at := func(l []row) api.Data { return api.Data{Rows: [][]row{l}} }
	if out, e := base.Insert(b, at(full[:api.MaxRows-1]), "t", full[api.MaxRows-1:]); e != api.OK || !same(out.Rows[0], full) {
		t.Errorf("one up to MaxRows: %d, %v", len(out.Rows), e)
	}
	if out, e := base.Insert(b, at(nil), "t", full); e != api.OK || !same(out.Rows[0], full) {
		t.Errorf("MaxRows: %d, %v", len(out.Rows), e)
	}
	if out, e := base.Insert(b, at(full), "t", []row{{one}}); e != api.ErrData || len(out.Rows) != 0 {
		t.Errorf("one above MaxRows: %d, %v", len(out.Rows), e)
	}
	if out, e := base.Delete(b, at(full), "t", full); e != api.OK || len(out.Rows) != 1 || len(out.Rows[0]) != 0 {
		t.Errorf("MaxRows deleted: %d, %v", len(out.Rows), e)
	}
	more := append(slices.Clone(full), row{one})
	for name, change := range map[string]func(api.Base, api.Data, string, []row) (api.Data, api.Errno){"Insert": base.Insert, "Delete": base.Delete} {
		if out, e := change(b, at(nil), "t", more); e != api.ErrData || len(out.Rows) != 0 {
			t.Errorf("%s of too many: %d, %v", name, len(out.Rows), e)
		}
	}
}

// TestChangesByDefinition also has P5.5.
func TestChangesByDefinition(t *testing.T) {
	t.Parallel()
	r := rand.New(rand.NewPCG(5, 2))
	b := read(alikeText)
	changed := map[bool]int{}
	for range 60000 {
		d := randomData(r, b, 4)
		if !rightByDefinition(b, d) {
			continue
		}
		at := r.IntN(len(b.Tables))
		l := randomData(r, b, 3).Rows[at]
		want := deep(d)
		want.Rows[at] = append(want.Rows[at], l...)
		got, e := base.Insert(b, d, b.Tables[at].Name, l)
		agree(t, "Insert", b, d, got, e, want)
		changed[e == api.OK]++
		if e == api.OK {
			if back, e := base.Delete(b, got, b.Tables[at].Name, l); e != api.OK || bag(back.Rows[at]) != bag(d.Rows[at]) {
				t.Fatalf("P5.5: %s, and %s: %s, %v", shownData(d), shown(l), shownData(back), e)
			}
		}
		want = deep(d)
		for _, x := range l {
			if i := slices.IndexFunc(want.Rows[at], func(y row) bool { return slices.Equal(x, y) }); i >= 0 {
				want.Rows[at] = slices.Delete(want.Rows[at], i, i+1)
			}
		}
		got, e = base.Delete(b, d, b.Tables[at].Name, l)
		agree(t, "Delete", b, d, got, e, want)
		changed[e == api.OK]++
	}
	if changed[true] < 1000 || changed[false] < 1000 {
		t.Errorf("too few of one kind: %v", changed)
	}
}

// agree compares the result of a change with the data that it should make, if they are right.
func agree(t *testing.T, name string, b api.Base, d, got api.Data, e api.Errno, want api.Data) {
	t.Helper()
	right := rightByDefinition(b, want)
	if right && (e != api.OK || !sameData(got, want)) || !right && (e != api.ErrData || len(got.Rows) != 0) {
		t.Fatalf("%s in %s: %s, %v, not %s (%v)", name, shownData(d), shownData(got), e, shownData(want), right)
	}
	if e == api.OK && base.CheckData(b, got) != api.OK {
		t.Fatalf("P5.5: %s in %s: %s is not right", name, shownData(d), shownData(got))
	}
}

// P5.3

func TestScan(t *testing.T) {
	b, d := read(shop), shopData()
	for name, want := range map[string]string{
		"cities":    "'Bonn', 'de', 3; 'Rome', 'us', 4; 'Rome', 'it', 5",
		"newest":    "9, 'us', false, 1, 'Rome'; 2, 'de', true, 1, null; 4, 'xx', true, null, null; 7, 'it', true, null, 'Rome'",
		"all_of_it": "4, 'xx', true, null, null; 7, 'it', true, null, 'Rome'; 2, 'de', true, 1, null; 9, 'us', false, 1, 'Rome'",
		"x": "null, 'Oslo', null, null, 9; 'us', 'Rome', false, null, 4; 'us', 'Rome', false, null, 4; null, null, true, 2, 7; " +
			"'it', 'Rome', true, 7, 2; 'it', 'Rome', null, 9, 2",
	} {
		if l, e := base.Scan(b, d, name); shown(l) != want || e != api.OK {
			t.Errorf("%s: %s, %v", name, shown(l), e)
		}
	}
	if l, e := base.Scan(b, lists("", "", ""), "newest"); len(l) != 0 || e != api.OK {
		t.Errorf("no rows: %v, %v", l, e)
	}
	for _, name := range []string{"", "city", "item", "size", "newes", "newest_", "select", "X"} {
		if l, e := base.Scan(b, d, name); len(l) != 0 || e != api.ErrNone {
			t.Errorf("%q: %v, %v", name, l, e)
		}
	}
}

// TestScanByDefinition also has P5.6.
func TestScanByDefinition(t *testing.T) {
	t.Parallel()
	r := rand.New(rand.NewPCG(5, 3))
	for range 3000 {
		b := read("table t (a int null, b bool null, c text null)\n")
		cols := r.Perm(3)[:1+r.IntN(3)]
		b.Tables[0].Indexes = []api.Index{{Name: "other", Cols: []int{2}}, {Name: "i", Cols: cols}}
		d := randomData(r, b, 9)
		if !rightByDefinition(b, d) {
			continue
		}
		l, e := base.Scan(b, d, "i")
		if e != api.OK {
			t.Fatal(e)
		}
		for i := range len(l) - 1 {
			if before(l[i+1], l[i], cols) {
				t.Fatalf("%v: %s", cols, shown(l))
			}
		}
		all, e := base.Rows(b, d, "t")
		if e != api.OK || bag(l) != shown(all) || bag(d.Rows[0]) != shown(all) {
			t.Fatalf("P5.6: %s, %s, %v", shown(l), shown(all), e)
		}
	}
}
