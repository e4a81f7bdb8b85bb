package base_test

import (
	"reflect"
	"slices"
	"testing"

	"tactician/api"
	"tactician/base"
)

// R4: arguments are neither changed nor kept, what lies behind them is not read, and results are new memory.

// widened has data with something behind the end of each list.
func widened(d api.Data) api.Data {
	for i, l := range d.Rows {
		for j := range l {
			l[j] = append(slices.Clip(l[j]), none, one)[:len(l[j])]
		}
		d.Rows[i] = append(slices.Clip(l), row{none})[:len(l)]
	}
	d.Rows = append(slices.Clip(d.Rows), []row{{none}})[:len(d.Rows)]
	return d
}

// whole copies d with what lies behind the ends of its lists.
func whole(d api.Data) api.Data {
	out := api.Data{Rows: slices.Clone(d.Rows[:cap(d.Rows)])}
	for i, l := range out.Rows {
		out.Rows[i] = slices.Clone(l[:cap(l)])
		for j, r := range out.Rows[i] {
			out.Rows[i][j] = slices.Clone(r[:cap(r)])
		}
	}
	return out
}

// lose makes all that is in d, and what lies behind its lists, null, and tells whether no part of it changes with another.
func lose(d api.Data) bool {
	var all []row
	for _, l := range d.Rows {
		all = append(all, l...)
	}
	for i, r := range all {
		rest := deep(api.Data{Rows: [][]row{all[i+1:]}}).Rows[0]
		clear(r[:cap(r)])
		if !same(rest, all[i+1:]) {
			return false
		}
	}
	for i, l := range d.Rows {
		rest := slices.Clone(d.Rows[i+1:])
		clear(l[:cap(l)])
		if !slices.EqualFunc(rest, d.Rows[i+1:], same) {
			return false
		}
	}
	clear(d.Rows[:cap(d.Rows)])
	return true
}

func TestMemoryOfData(t *testing.T) {
	b := read(shop)
	d := widened(shopData())
	in := widened(lists("12, 'zz', true, 3, null"))
	before, inBefore := whole(d), whole(in)
	of := func(l []row, e api.Errno) (api.Data, api.Errno) { return api.Data{Rows: [][]row{l}}, e }
	for name, result := range map[string]func() (api.Data, api.Errno){
		"Rows":      func() (api.Data, api.Errno) { return of(base.Rows(b, d, "item")) },
		"Scan":      func() (api.Data, api.Errno) { return of(base.Scan(b, d, "newest")) },
		"Insert":    func() (api.Data, api.Errno) { return base.Insert(b, d, "item", in.Rows[0]) },
		"no Insert": func() (api.Data, api.Errno) { return base.Insert(b, d, "item", nil) },
		"Delete":    func() (api.Data, api.Errno) { return base.Delete(b, d, "sale", d.Rows[2][:2]) },
		"no Delete": func() (api.Data, api.Errno) { return base.Delete(b, d, "sale", in.Rows[0]) },
		"CheckData": func() (api.Data, api.Errno) { return shopData(), base.CheckData(b, d) },
	} {
		first, e := result()
		second, f := result()
		want := deep(second)
		if e != api.OK || f != api.OK || len(first.Rows) == 0 || len(first.Rows[0]) == 0 {
			t.Errorf("%s: %v, %v", name, first, e)
		}
		if !lose(first) {
			t.Errorf("%s: two rows or two lists share memory", name)
		}
		if !sameData(second, want) {
			t.Errorf("%s: two results share memory", name)
		}
		if !sameData(whole(d), before) || !sameData(whole(in), inBefore) {
			t.Fatalf("%s: the arguments have changed, to %v and %v", name, whole(d), whole(in))
		}
	}
}

// numbers are all lists of numbers in b.
func numbers(b api.Base) [][]int {
	var out [][]int
	for _, t := range b.Tables {
		out = append(out, t.Keys...)
		for _, ref := range t.Refs {
			out = append(out, ref.Cols)
		}
		for _, x := range t.Indexes {
			out = append(out, x.Cols)
		}
	}
	return out
}

// wholeBase copies b with what lies behind the ends of its lists.
func wholeBase(b api.Base) api.Base {
	out := api.Base{Tables: slices.Clone(b.Tables[:cap(b.Tables)])}
	for i, t := range out.Tables {
		n := api.Table{Name: t.Name, Cols: slices.Clone(t.Cols[:cap(t.Cols)])}
		for _, key := range t.Keys[:cap(t.Keys)] {
			n.Keys = append(n.Keys, slices.Clone(key[:cap(key)]))
		}
		for _, ref := range t.Refs[:cap(t.Refs)] {
			ref.Cols = slices.Clone(ref.Cols[:cap(ref.Cols)])
			n.Refs = append(n.Refs, ref)
		}
		for _, x := range t.Indexes[:cap(t.Indexes)] {
			x.Cols = slices.Clone(x.Cols[:cap(x.Cols)])
			n.Indexes = append(n.Indexes, x)
		}
		out.Tables[i] = n
	}
	return out
}

// widenedBase has b with something behind the end of each list.
func widenedBase(b api.Base) api.Base {
	for i := range b.Tables {
		t := &b.Tables[i]
		for j := range t.Keys {
			t.Keys[j] = append(slices.Clip(t.Keys[j]), -7)[:len(t.Keys[j])]
		}
		for j := range t.Refs {
			t.Refs[j].Cols = append(slices.Clip(t.Refs[j].Cols), -7)[:len(t.Refs[j].Cols)]
		}
		for j := range t.Indexes {
			t.Indexes[j].Cols = append(slices.Clip(t.Indexes[j].Cols), -7)[:len(t.Indexes[j].Cols)]
		}
		t.Cols = append(slices.Clip(t.Cols), api.Column{Name: "behind"})[:len(t.Cols)]
		t.Keys = append(slices.Clip(t.Keys), []int{-7})[:len(t.Keys)]
		t.Refs = append(slices.Clip(t.Refs), api.Ref{Key: -7})[:len(t.Refs)]
		t.Indexes = append(slices.Clip(t.Indexes), api.Index{Name: "behind"})[:len(t.Indexes)]
	}
	b.Tables = append(slices.Clip(b.Tables), api.Table{Name: "behind"})[:len(b.Tables)]
	return b
}

func TestMemoryOfBases(t *testing.T) {
	b := widenedBase(read(shop))
	before := wholeBase(b)
	for _, calls := range []map[string]call{withBase(), withData()} {
		for name, f := range calls {
			table := "item"
			if name == "Scan" {
				table = "newest"
			}
			if _, e := f(b, shopData(), table, nil); e != api.OK {
				t.Errorf("%s: %v", name, e)
			}
			if !reflect.DeepEqual(wholeBase(b), before) {
				t.Fatalf("%s: the base has changed", name)
			}
		}
	}
	cols, _ := base.Cols(b, "item")
	again, _ := base.Cols(b, "item")
	want := slices.Clone(again)
	clear(cols[:cap(cols)])
	if !slices.Equal(again, want) || !reflect.DeepEqual(wholeBase(b), before) {
		t.Errorf("Cols: the result shares memory")
	}
}

func TestMemoryOfParse(t *testing.T) {
	first, second := read(shop), read(shop)
	want := numbers(wholeBase(first))
	for i, l := range numbers(first) {
		for j := range l[:cap(l)] {
			l[:cap(l)][j] = -7
		}
		for k, rest := range numbers(first)[i+1:] {
			if !slices.Equal(rest, want[i+1+k][:len(rest)]) {
				t.Errorf("lists %d and %d share memory", i, i+1+k)
			}
		}
	}
	for _, table := range first.Tables {
		clear(table.Cols[:cap(table.Cols)])
		clear(table.Keys[:cap(table.Keys)])
		clear(table.Refs[:cap(table.Refs)])
		clear(table.Indexes[:cap(table.Indexes)])
	}
	clear(first.Tables)
	if s, e := base.String(second); s != shop || e != api.OK {
		t.Errorf("two results share memory")
	}
}
