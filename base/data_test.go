package base_test

import (
	"math/rand/v2"
	"slices"
	"strings"
	"testing"

	"tactician/api"
	"tactician/base"
)

// P5.1: right data

// alikeText is a base whose tables have keys and references of one to three columns, which random data often break.
const alikeText = "table one (a int, b text null) key (a)\n" +
	"table two (a int, b bool, c int null) key (a, b) ref (c) one 0\n" +
	"table three (a int, b int, c bool) key (a, b, c)\n" +
	"table refs (x int null, y int null, z bool null) ref (y) one 0 ref (x, z) two 0 ref (y, x, z) three 0\n"

// randomValue is often null where that may be, and seldom something that does not fit.
func randomValue(r *rand.Rand, c api.Column) api.Value {
	switch n := r.IntN(200); {
	case n == 0:
		return null
	case n == 1:
		return number(int64(r.IntN(3)))
	case c.Null && n < 60:
		return null
	}
	switch c.Kind {
	case api.Int:
		return number(int64(r.IntN(3)))
	case api.Bool:
		return api.Value{Kind: api.Bool, Int: int64(r.IntN(2))}
	}
	return words([]string{"", "a", "b"}[r.IntN(3)])
}

// randomData has at most most rows in each table.
func randomData(r *rand.Rand, b api.Base, most int) api.Data {
	var d api.Data
	for _, t := range b.Tables {
		l := many(r.IntN(most+1), func(int) row {
			var out row
			for _, c := range t.Cols {
				out = append(out, randomValue(r, c))
			}
			return out
		})
		d.Rows = append(d.Rows, l)
	}
	return d
}

func at(l row, cols []int) row {
	var out row
	for _, c := range cols {
		out = append(out, l[c])
	}
	return out
}

// rightByDefinition follows the chapter, word by word, for values that are values.
func rightByDefinition(b api.Base, d api.Data) bool {
	if len(d.Rows) != len(b.Tables) {
		return false
	}
	for i, t := range b.Tables {
		if len(d.Rows[i]) > api.MaxRows {
			return false
		}
		for _, l := range d.Rows[i] {
			if len(l) != len(t.Cols) {
				return false
			}
			for j, c := range t.Cols {
				if l[j] == none || l[j].Kind != c.Kind && (l[j] != null || !c.Null) {
					return false
				}
			}
		}
	}
	for i, t := range b.Tables {
		for _, key := range t.Keys {
			for x, l := range d.Rows[i] {
				for _, m := range d.Rows[i][:x] {
					if slices.Equal(at(l, key), at(m, key)) {
						return false
					}
				}
			}
		}
		for _, ref := range t.Refs {
			for _, l := range d.Rows[i] {
				if !refers(b, d, ref, at(l, ref.Cols)) {
					return false
				}
			}
		}
	}
	return true
}

func refers(b api.Base, d api.Data, ref api.Ref, values row) bool {
	if slices.Contains(values, null) {
		return true
	}
	for i, t := range b.Tables {
		for _, l := range d.Rows[i] {
			if t.Name == ref.Table && slices.Equal(values, at(l, t.Keys[ref.Key])) {
				return true
			}
		}
	}
	return false
}

func TestCheckDataByDefinition(t *testing.T) {
	t.Parallel()
	r := rand.New(rand.NewPCG(5, 1))
	b := read(alikeText)
	seen := map[bool]int{}
	for range 60000 {
		d := randomData(r, b, 3)
		want := rightByDefinition(b, d)
		seen[want]++
		if e := base.CheckData(b, d); (e == api.OK) != want || e != api.OK && e != api.ErrData {
			t.Fatalf("%s: %v", shownData(d), e)
		}
	}
	if seen[true] < 2000 || seen[false] < 2000 {
		t.Errorf("too few of one kind: %v", seen)
	}
}

func TestCheckData(t *testing.T) {
	b := read(shop)
	if e := base.CheckData(b, shopData()); e != api.OK {
		t.Errorf("the shop: %v", e)
	}
	for name, change := range map[string]func(d *api.Data){
		"no tables":                func(d *api.Data) { d.Rows = nil },
		"too few tables":           func(d *api.Data) { d.Rows = d.Rows[:2] },
		"too many tables":          func(d *api.Data) { d.Rows = append(d.Rows, nil) },
		"no values":                func(d *api.Data) { d.Rows[0][0] = nil },
		"too few values":           func(d *api.Data) { d.Rows[0][2] = d.Rows[0][2][:2] },
		"too many values":          func(d *api.Data) { d.Rows[0][0] = append(d.Rows[0][0], null) },
		"many too many values":     func(d *api.Data) { d.Rows[0][0] = make(row, 100) },
		"null":                     func(d *api.Data) { d.Rows[2][5][4] = null },
		"another kind":             func(d *api.Data) { d.Rows[1][2][2] = one },
		"no kind":                  func(d *api.Data) { d.Rows[1][2][3].Kind = 4 },
		"no value":                 func(d *api.Data) { d.Rows[1][2][3] = none },
		"no truth":                 func(d *api.Data) { d.Rows[1][2][2].Int = 2 },
		"no text":                  func(d *api.Data) { d.Rows[1][3][1] = words("\n") },
		"too long a text":          func(d *api.Data) { d.Rows[1][3][1] = words(strings.Repeat("a", api.MaxText+1)) },
		"the first key":            func(d *api.Data) { d.Rows[0][2][1] = words("it") },
		"the second key":           func(d *api.Data) { d.Rows[0][2][2] = number(5) },
		"one row twice":            func(d *api.Data) { d.Rows[1] = append(d.Rows[1], slices.Clone(d.Rows[1][3])) },
		"a reference":              func(d *api.Data) { d.Rows[1][0][4] = words("Bonn") },
		"a reference turned round": func(d *api.Data) { d.Rows[2][0][0], d.Rows[2][0][1] = words("Rome"), words("it") },
		"the second reference":     func(d *api.Data) { d.Rows[2][2][3] = number(1) },
		"the third reference":      func(d *api.Data) { d.Rows[2][0][3] = number(4) },
		"the last reference":       func(d *api.Data) { d.Rows[2][1][4] = number(8) },
		"a reference to none":      func(d *api.Data) { d.Rows[0] = nil },
	} {
		d := shopData()
		change(&d)
		if e := base.CheckData(b, d); e != api.ErrData {
			t.Errorf("%s: %v", name, e)
		}
	}
	for name, change := range map[string]func(d *api.Data){
		"no rows":               func(d *api.Data) { d.Rows = make([][]row, 3) },
		"no rows of the last":   func(d *api.Data) { d.Rows[2] = []row{} },
		"null":                  func(d *api.Data) { d.Rows[1][2][3] = null },
		"a part of a key":       func(d *api.Data) { d.Rows[0][1][0] = words("Rome") },
		"a row that is twice":   func(d *api.Data) { d.Rows[2] = append(d.Rows[2], d.Rows[2]...) },
		"a reference with null": func(d *api.Data) { d.Rows[2][1][0] = null },
		"null as a reference":   func(d *api.Data) { d.Rows[2][0][3] = null },
		"another reference":     func(d *api.Data) { d.Rows[2][5][3] = number(4) },
		"as long as can be":     func(d *api.Data) { d.Rows[1][3][1] = words(strings.Repeat("'", api.MaxText)) },
	} {
		d := shopData()
		change(&d)
		if e := base.CheckData(b, d); e != api.OK {
			t.Errorf("%s: %v", name, e)
		}
	}
	for _, c := range []struct {
		d    api.Data
		want api.Errno
	}{
		{api.Data{}, api.OK},
		{api.Data{Rows: [][]row{}}, api.OK},
		{api.Data{Rows: [][]row{nil}}, api.ErrData},
	} {
		if e := base.CheckData(api.Base{}, c.d); e != c.want {
			t.Errorf("%v for no tables: %v", c.d, e)
		}
	}
}

// TestKeysAlike has rows that are different, but look alike if their values are just put behind each other.
func TestKeysAlike(t *testing.T) {
	apart := []row{
		{words("a"), words("b"), words("c")}, {words("a', 'b"), words("c"), words("")}, {words("a"), words("b', 'c"), words("")},
		{words("ab"), words(""), words("c")}, {words("a"), words("bc"), words("")}, {words(""), words("a', 'b', 'c"), words("")},
		{words("a,b"), words("c"), words("")}, {words("a"), words("b,c"), words("")}, {words("null"), words("b"), words("c")},
	}
	for n := 1; n <= 3; n++ {
		b := read("table t (a text, b text, c text) key (" + strings.Join([]string{"a", "b", "c"}[:n], ", ") + ")\n" +
			"table u (a text null, b text null, c text null) ref (" + strings.Join([]string{"a", "b", "c"}[:n], ", ") + ") t 0\n")
		for _, x := range apart {
			for _, y := range apart {
				same := slices.Equal(x[:n], y[:n])
				if e := base.CheckData(b, api.Data{Rows: [][]row{{x, y}, nil}}); (e == api.OK) == same {
					t.Errorf("%d of %v, %v: %v", n, x, y, e)
				}
				if e := base.CheckData(b, api.Data{Rows: [][]row{{x}, {y}}}); (e == api.OK) != same {
					t.Errorf("%d of %v to %v: %v", n, y, x, e)
				}
			}
		}
	}
}

// TestWideKeys has keys of all columns, which differ in one of them.
func TestWideKeys(t *testing.T) {
	for n := 1; n <= api.MaxCols; n++ {
		var cols, names []string
		for name := range columnStrings(n, "") {
			cols = append(cols, name+" int")
			names = append(names, name)
		}
		key := "(" + strings.Join(names, ", ") + ")"
		table := " (" + strings.Join(cols, ", ") + ") "
		b := read("table t" + table + "key " + key + "\ntable u" + table + "ref " + key + " t 0\n")
		x := slices.Repeat(row{one}, n)
		if e := base.CheckData(b, api.Data{Rows: [][]row{{x}, {x, x}}}); e != api.OK {
			t.Errorf("%d columns: %v", n, e)
		}
		if e := base.CheckData(b, api.Data{Rows: [][]row{{x, x}, nil}}); e != api.ErrData {
			t.Errorf("%d columns, the same: %v", n, e)
		}
		for i := range n {
			y := slices.Clone(x)
			y[i] = number(2)
			if e := base.CheckData(b, api.Data{Rows: [][]row{{x, y}, {y, x}}}); e != api.OK {
				t.Errorf("%d columns, different at %d: %v", n, i, e)
			}
			if e := base.CheckData(b, api.Data{Rows: [][]row{{x}, {x, y}}}); e != api.ErrData {
				t.Errorf("%d columns, a reference wrong at %d: %v", n, i, e)
			}
		}
	}
}

func TestMaxRows(t *testing.T) {
	b := read("table t (a int, b int, c int) key (a) key (b, c) key (a, b, c)\ntable u (x int, y int null) ref (x) t 0 ref (y, x) t 1\n")
	l := many(api.MaxRows+1, func(i int) row { return row{number(int64(i)), number(int64(i / 7)), number(int64(i))} })
	m := many(api.MaxRows+1, func(i int) row { return row{number(int64(i)), number(int64(i / 7))} })
	full := api.Data{Rows: [][]row{l[:api.MaxRows], m[:api.MaxRows]}}
	if e := base.CheckData(b, full); e != api.OK {
		t.Errorf("MaxRows: %v", e)
	}
	if e := base.CheckData(b, api.Data{Rows: [][]row{l, nil}}); e != api.ErrData {
		t.Errorf("MaxRows + 1 in the first table: %v", e)
	}
	if e := base.CheckData(b, api.Data{Rows: [][]row{l[:1], slices.Repeat([]row{{number(0), null}}, api.MaxRows+1)}}); e != api.ErrData {
		t.Errorf("MaxRows + 1 in the second table: %v", e)
	}
	l[api.MaxRows-1] = row{number(0), number(9), number(9)}
	if e := base.CheckData(b, api.Data{Rows: [][]row{l[:api.MaxRows], nil}}); e != api.ErrData {
		t.Errorf("the last row like the first one: %v", e)
	}
}
