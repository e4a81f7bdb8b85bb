package base_test

import (
	"iter"
	"math"
	"slices"
	"strconv"
	"strings"
	"testing"

	"tactician/api"
	"tactician/base"
)

// P5.1: bases

// columnStrings goes through n names of columns, each with what is behind.
func columnStrings(n int, behind string) iter.Seq[string] {
	return func(yield func(string) bool) {
		for i := range n {
			if !yield("c" + strconv.Itoa(i) + behind) {
				return
			}
		}
	}
}

func TestBases(t *testing.T) {
	for _, b := range []api.Base{{}, {Tables: []api.Table{}}, read(shop), read(alikeText)} {
		if e := base.Check(b); e != api.OK {
			t.Errorf("%v: %v", b, e)
		}
	}
	for name, change := range map[string]func(city, item, sale *api.Table){
		"no name":                       func(city, _, _ *api.Table) { city.Name = "" },
		"no columns":                    func(city, _, _ *api.Table) { *city = api.Table{Name: "city"} },
		"two tables with a name":        func(_, item, _ *api.Table) { item.Name = "sale" },
		"two columns with a name":       func(_, _, sale *api.Table) { sale.Cols[4].Name = "land" },
		"a column without a kind":       func(_, item, _ *api.Table) { item.Cols[3].Kind = api.Null },
		"a column of no kind":           func(_, item, _ *api.Table) { item.Cols[3].Kind = 4 },
		"a column of a negative kind":   func(_, item, _ *api.Table) { item.Cols[3].Kind = -1 },
		"an empty key":                  func(_, _, sale *api.Table) { sale.Keys = [][]int{{}} },
		"a key of a column twice":       func(_, _, sale *api.Table) { sale.Keys = [][]int{{4, 4}} },
		"a key that falls":              func(_, item, _ *api.Table) { item.Keys = append(item.Keys, []int{1, 0}) },
		"a key that may be null":        func(_, _, sale *api.Table) { sale.Keys = [][]int{{3, 4}} },
		"a key of a null alone":         func(_, _, sale *api.Table) { sale.Keys = [][]int{{0}} },
		"a key of no column":            func(_, _, sale *api.Table) { sale.Keys = [][]int{{5}} },
		"a key of a negative column":    func(_, _, sale *api.Table) { sale.Keys = [][]int{{-1}} },
		"a key of columns far away":     func(_, _, sale *api.Table) { sale.Keys = [][]int{{math.MinInt, math.MaxInt}} },
		"two keys alike":                func(_, item, _ *api.Table) { item.Keys = append(item.Keys, []int{0, 1, 2}) },
		"two keys alike in a row":       func(_, _, sale *api.Table) { sale.Keys = [][]int{{4}, {4}} },
		"a reference to no table":       func(_, _, sale *api.Table) { sale.Refs[1].Table = "nowhere" },
		"a reference to itself":         func(_, item, _ *api.Table) { item.Refs = []api.Ref{{Cols: []int{0}, Table: "item"}} },
		"a reference to a later table":  func(city, _, _ *api.Table) { city.Refs = []api.Ref{{Cols: []int{2}, Table: "item"}} },
		"a reference to no key":         func(_, _, sale *api.Table) { sale.Refs[1].Key = 2 },
		"a reference to a negative key": func(_, _, sale *api.Table) { sale.Refs[1].Key = -1 },
		"a reference to a key far away": func(_, _, sale *api.Table) { sale.Refs[1].Key = math.MaxInt },
		"a reference to another key":    func(_, _, sale *api.Table) { sale.Refs[1].Key = 1 },
		"a reference of no columns":     func(_, _, sale *api.Table) { sale.Refs[1].Cols = nil },
		"a reference of too few":        func(_, _, sale *api.Table) { sale.Refs[0].Cols = []int{1} },
		"a reference of too many":       func(_, _, sale *api.Table) { sale.Refs[1].Cols = []int{3, 4} },
		"a reference of a column twice": func(_, _, sale *api.Table) { sale.Refs[0].Cols = []int{1, 1} },
		"a reference of no column":      func(_, _, sale *api.Table) { sale.Refs[0].Cols = []int{1, 5} },
		"a reference of a negative one": func(_, _, sale *api.Table) { sale.Refs[0].Cols = []int{1, -1} },
		"a reference of another kind":   func(_, _, sale *api.Table) { sale.Refs[1].Cols = []int{2} },
		"a reference turned round":      func(_, _, sale *api.Table) { sale.Refs[2].Cols = []int{0, 3, 2} },
		"an index without a name":       func(_, _, sale *api.Table) { sale.Indexes[0].Name = "" },
		"an index with another's name":  func(_, item, _ *api.Table) { item.Indexes[1].Name = "newest" },
		"an index with one elsewhere":   func(_, _, sale *api.Table) { sale.Indexes[0].Name = "cities" },
		"an index of no columns":        func(_, _, sale *api.Table) { sale.Indexes[0].Cols = []int{} },
		"an index of a column twice":    func(_, _, sale *api.Table) { sale.Indexes[0].Cols = []int{2, 0, 2} },
		"an index of no column":         func(_, _, sale *api.Table) { sale.Indexes[0].Cols = []int{2, 5} },
		"an index of a negative column": func(_, _, sale *api.Table) { sale.Indexes[0].Cols = []int{-1, 2} },
		"an index of too many":          func(_, _, sale *api.Table) { sale.Indexes[0].Cols = make([]int, 1000) },
	} {
		b := read(shop)
		change(&b.Tables[0], &b.Tables[1], &b.Tables[2])
		if e := base.Check(b); e != api.ErrBase {
			t.Errorf("%s: %v", name, e)
		}
	}
	for name, change := range map[string]func(city, item, sale *api.Table){
		"a table called as a column":  func(city, _, _ *api.Table) { city.Cols[2].Name = "city" },
		"an index called as a table":  func(_, _, sale *api.Table) { sale.Indexes[0].Name = "sale" },
		"an index called as a column": func(_, _, sale *api.Table) { sale.Indexes[0].Name = "thing" },
		"words of the string":         func(city, item, _ *api.Table) { city.Cols[2].Name, item.Cols[0].Name = "key", "table" },
		"one key in another":          func(_, _, sale *api.Table) { sale.Cols[3].Null = false; sale.Keys = [][]int{{3, 4}, {4}, {3}} },
		"a reference of no order": func(_, _, sale *api.Table) {
			sale.Cols[4].Kind = api.Bool
			sale.Refs = sale.Refs[:3]
			sale.Refs[2].Cols[2] = 4
		},
		"a reference that is there twice": func(_, _, sale *api.Table) { sale.Refs[3] = sale.Refs[1] },
		"two indexes of the same columns": func(_, item, _ *api.Table) { item.Indexes[1].Cols = []int{2, 0} },
		"an index of columns with nulls":  func(_, _, sale *api.Table) { sale.Indexes[0].Cols = []int{4, 3, 2, 1, 0} },
	} {
		b := read(shop)
		change(&b.Tables[0], &b.Tables[1], &b.Tables[2])
		if e := base.Check(b); e != api.OK {
			t.Errorf("%s: %v", name, e)
		}
	}
}

// queryWords are those of chapter 8.
const queryWords = "all and as asc between by case cross desc distinct else end except exists false from full group having in inner " +
	"intersect is join left limit not null offset on or order outer right select then true union values when where"

func TestNames(t *testing.T) {
	names := map[string]bool{"": false, "a b": false, "a-b": false, "\xc3\xa9": false, "a\xc3\xa9": false, "all and": false, " all": false, "all ": false}
	for _, w := range strings.Fields(queryWords) {
		names[w] = false
		names[strings.ToUpper(w)] = false
		names[w+"_"] = true
		names[w+"1"] = true
		names["x"+w] = true
		names[w+" "] = false
		names[w+"\x00"] = false
	}
	for _, w := range []string{"table", "key", "ref", "index", "int", "bool", "text", "count", "sum", "z9_", "a_b_c", "a__", "al", "wher", "nul", "ordr"} {
		names[w] = true
	}
	for n := 1; n <= api.MaxName+2; n++ {
		names[strings.Repeat("q", n)] = n <= api.MaxName
	}
	names[strings.Repeat("long", 10000)] = false
	for c := range 256 {
		letter := c >= 'a' && c <= 'z'
		more := letter || c >= '0' && c <= '9' || c == '_'
		s := string([]byte{byte(c)})
		names[s] = letter
		names["a"+s] = more && "a"+s != "as"
		names["q"+s+"q"] = more
		names[s+"qq"] = letter
	}
	for name, is := range names {
		want := api.ErrBase
		if is {
			want = api.OK
		}
		for what, b := range map[string]api.Base{
			"table":  {Tables: []api.Table{{Name: name, Cols: []api.Column{{Name: "c", Kind: api.Int}}}}},
			"column": {Tables: []api.Table{{Name: "t", Cols: []api.Column{{Name: "xyz", Kind: api.Int}, {Name: name, Kind: api.Int}}}}},
			"index": {Tables: []api.Table{{
				Name: "t", Cols: []api.Column{{Name: "c", Kind: api.Int}},
				Indexes: []api.Index{{Name: "xyz", Cols: []int{0}}, {Name: name, Cols: []int{0}}},
			}}},
		} {
			if e := base.Check(b); e != want {
				t.Errorf("%s %q: %v", what, name, e)
			}
		}
	}
}

// of is n elements, each made of its number.
func of[T any](n int, each func(i int) T) []T {
	out := make([]T, n)
	for i := range out {
		out[i] = each(i)
	}
	return out
}

func TestLimitsOfBases(t *testing.T) {
	cols := func(n int) []api.Column {
		return of(n, func(i int) api.Column { return api.Column{Name: "c" + strconv.Itoa(i), Kind: api.Int} })
	}
	table := func(i int) api.Table { return api.Table{Name: "t" + strconv.Itoa(i), Cols: cols(1)} }
	first := api.Table{Name: "first", Cols: cols(9), Keys: of(8, func(i int) []int { return []int{i} })}
	for _, c := range []struct {
		name string
		most int
		make func(n int) api.Base
	}{
		{"tables", api.MaxTables, func(n int) api.Base { return api.Base{Tables: of(n, table)} }},
		{"columns", api.MaxCols, func(n int) api.Base { return api.Base{Tables: []api.Table{{Name: "t", Cols: cols(n)}}} }},
		{"keys", api.MaxKeys, func(n int) api.Base {
			keys := of(n, func(i int) []int { return []int{i} })
			return api.Base{Tables: []api.Table{{Name: "t", Cols: cols(12), Keys: keys}}}
		}},
		{"references", api.MaxKeys, func(n int) api.Base {
			refs := of(n, func(i int) api.Ref { return api.Ref{Cols: []int{0}, Table: "first", Key: i % 8} })
			return api.Base{Tables: []api.Table{first, {Name: "t", Cols: cols(1), Refs: refs}}}
		}},
		{"indexes", api.MaxKeys, func(n int) api.Base {
			indexes := of(n, func(i int) api.Index { return api.Index{Name: "i" + strconv.Itoa(i), Cols: []int{0}} })
			return api.Base{Tables: []api.Table{{Name: "t", Cols: cols(1), Indexes: indexes}}}
		}},
	} {
		for _, n := range []int{1, c.most - 1, c.most} {
			if e := base.Check(c.make(n)); e != api.OK {
				t.Errorf("%d %s: %v", n, c.name, e)
			}
		}
		for _, n := range []int{c.most + 1, 5 * c.most} {
			if e := base.Check(c.make(n)); e != api.ErrBase {
				t.Errorf("%d %s: %v", n, c.name, e)
			}
		}
	}
	whole := of(api.MaxCols, func(i int) int { return i })
	b := api.Base{Tables: []api.Table{
		{Name: "t", Cols: cols(api.MaxCols), Keys: [][]int{whole}, Indexes: []api.Index{{Name: "i", Cols: whole}}},
		{Name: "u", Cols: cols(api.MaxCols), Refs: []api.Ref{{Cols: whole, Table: "t"}}},
	}}
	if e := base.Check(b); e != api.OK {
		t.Errorf("all columns: %v", e)
	}
}

// places calls each for all lists of at most 3 of the numbers from -1 to n.
func places(n int, each func(l []int)) {
	var grow func(l []int)
	grow = func(l []int) {
		each(slices.Clone(l))
		for i := -1; i <= n && len(l) < 3; i++ {
			grow(append(slices.Clone(l), i))
		}
	}
	grow(nil)
}

// TestPlaces has all short lists of columns as a key, a reference and an index.
func TestPlaces(t *testing.T) {
	first := api.Table{Name: "first", Cols: []api.Column{{Name: "x", Kind: api.Text}, {Name: "y", Kind: api.Int}}, Keys: [][]int{{1}, {0}, {0, 1}}}
	cols := []api.Column{{Name: "a", Kind: api.Int}, {Name: "b", Kind: api.Text}, {Name: "c", Kind: api.Int, Null: true}, {Name: "d", Kind: api.Text}}
	of := func(b api.Base) bool {
		e := base.Check(b)
		if e != api.OK && e != api.ErrBase {
			t.Errorf("%v: %v", b, e)
		}
		return e == api.OK
	}
	places(len(cols), func(l []int) {
		known, rising, kinds := len(l) > 0, true, []api.Kind{}
		for i, n := range l {
			if n < 0 || n >= len(cols) || slices.Contains(l[:i], n) {
				known = false
				break
			}
			rising = rising && (i == 0 || l[i-1] < n)
			kinds = append(kinds, cols[n].Kind)
		}
		table := api.Table{Name: "t", Cols: cols}
		table.Indexes = []api.Index{{Name: "i", Cols: l}}
		if got := of(api.Base{Tables: []api.Table{first, table}}); got != known {
			t.Errorf("index %v: %v", l, got)
		}
		table.Indexes, table.Keys = nil, [][]int{{0}, {0, 1, 3}, l}
		want := known && rising && !slices.Contains(l, 2) && !slices.Equal(l, []int{0}) && !slices.Equal(l, []int{0, 1, 3})
		if got := of(api.Base{Tables: []api.Table{first, table}}); got != want {
			t.Errorf("key %v: %v", l, got)
		}
		table.Keys = nil
		for key := -1; key < 4; key++ {
			table.Refs = []api.Ref{{Cols: l, Table: "first", Key: key}}
			want := known && key >= 0 && key < 3 && slices.Equal(kinds, [][]api.Kind{{api.Int}, {api.Text}, {api.Text, api.Int}}[key])
			if got := of(api.Base{Tables: []api.Table{first, table}}); got != want {
				t.Errorf("reference %v to %d: %v", l, key, got)
			}
		}
	})
}
