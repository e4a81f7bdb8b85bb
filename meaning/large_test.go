package meaning_test

import (
	"fmt"
	"testing"

	"tactician/api"
	"tactician/meaning"
)

// costing is a relation with 5 rows, each of a number, that takes so much work (300 at least) to make.
func costing(work int) api.Rel {
	k := (work - 300) / 64
	many := values(k)
	counts := make([]api.Rel, 16)
	for i := range counts {
		counts[i] = count(many)
	}
	quarter := count(union(counts...)) // 2, of it 1 for its row; 1 + 16 of the union; 16 times 2 and 1 + k
	rest := work - 1 - 5 - 4*(2+17+16*(3+k))
	return union(quarter, quarter, quarter, quarter, count(values(rest-3)))
}

// beside is a relation that takes just MaxWork to make, with more, if r takes as much as is said.
func beside(r api.Rel, work, more int) api.Rel {
	return union(count(r), costing(api.MaxWork-work-2-7+more)) // 2 for the count, 7 for the union and its 6 rows
}

// TestWork: what is work, to the unit.
func TestWork(t *testing.T) {
	t.Parallel()
	for _, c := range []struct {
		rel  string
		work int
	}{
		{"scan(t)", 5},
		{"values(int; )", 1},
		{"values(int; (1) (1))", 3},
		{"filter(eq($0, 1), scan(t))", 1 + 1 + 5},
		{"map(add($0, 1), $1, scan(t))", 1 + 4 + 5},
		{"join(inner, eq($0, $2), scan(t), scan(n))", 1 + 2 + 5 + 6 + 20},
		{"join(left, eq($0, $2), scan(t), scan(n))", 1 + 5 + 5 + 6 + 20},
		{"join(full, eq($0, $2), scan(t), scan(n))", 1 + 8 + 5 + 6 + 20},
		{"join(semi, true, scan(t), scan(n))", 1 + 4 + 5 + 6 + 20},
		{"join(anti, true, scan(t), scan(n))", 1 + 0 + 5 + 6 + 20},
		{"join(inner, true, scan(t), values(int; ))", 1 + 0 + 5 + 1},
		{"apply(1, inner, scan(t), scan(n))", 1 + 20 + 5 + 4*6},
		{"apply(1, left, scan(t), filter(eq($0, ^1.0), scan(n)))", 1 + 5 + 5 + 4*(1+6) + 2},
		{"apply(1, semi, scan(t), scan(n))", 1 + 4 + 5 + 4*6},
		{"apply(1, anti, scan(t), scan(n))", 1 + 5 + 4*6},
		{"apply(1, anti, values(int; ), scan(n))", 1 + 1},
		{"group([1], count, scan(t))", 1 + 3 + 5},
		{"group([], count, scan(t))", 1 + 1 + 5},
		{"group([], count, sum(distinct $0), values(int; ))", 1 + 1 + 1},
		{"union(scan(n), scan(n), scan(n))", 1 + 15 + 18},
		{"both(scan(n), scan(n))", 1 + 3 + 12},
		{"both(all, scan(n), scan(n))", 1 + 5 + 12},
		{"minus(scan(n), scan(n))", 1 + 12},
		{"minus(all, scan(n), values(int; (2)))", 1 + 4 + 6 + 2},
		{"sort([1], 0, -1, scan(t))", 1 + 4 + 5},
		{"sort([1], 1, 2, scan(t))", 1 + 2 + 5},
		{"filter(exists(1, scan(n)), scan(t))", 1 + 4 + 5 + 4*6},
		{"filter(and(false, exists(1, scan(n))), scan(t))", 1 + 5 + 4*6},
		{"map(case(true, 1, one(1, scan(n))), scan(t))", 1 + 4 + 5 + 4*6},
		{"map(coalesce(1, one(1, scan(n)), one(1, scan(n))), scan(t))", 1 + 4 + 5 + 8*6},
		{"filter(in(1, $0, scan(n)), scan(t))", 1 + 1 + 5 + 4*(6+5)},
		{"filter(in(1, one(2, scan(n)), scan(n)), scan(t))", 1 + 0 + 5 + 4*(6+6+5)},
		{"filter(in(1, $0, filter(false, scan(n))), scan(t))", 1 + 0 + 5 + 4*(1+6)},
		{"filter(exists(1, filter(exists(2, scan(n)), scan(n))), scan(t))", 1 + 4 + 5 + 4*(1+5+6+5*6)},
		{"join(inner, exists(1, values(int; )), scan(t), scan(n))", 1 + 0 + 5 + 6 + 20 + 20},
		{"apply(1, semi, scan(n), apply(2, anti, scan(t), values(int; )))", 1 + 5 + 6 + 5*(1+4+5+4)},
	} {
		t.Run(c.rel, func(t *testing.T) {
			t.Parallel()
			for more, want := range []api.Errno{api.OK, api.ErrLarge} {
				l, e := meaning.Result(shopBase(), shopData(), beside(read(c.rel), c.work, more))
				if e != want || e != api.OK && l != nil {
					t.Errorf("%d more than MaxWork: %v, %v", more, l, e)
				}
			}
		})
	}
}

// TestWorkOfCalls: all calls that make relations know the limit; of a leaf the rows count, too.
func TestWorkOfCalls(t *testing.T) {
	t.Parallel()
	b, d := shopBase(), shopData()
	for more, want := range []api.Errno{api.OK, api.ErrLarge} {
		r := costing(api.MaxWork + more)
		if l, e := meaning.Result(b, d, r); e != want || (len(l) == 5) != (e == api.OK) {
			t.Errorf("Result: %v, %v", l, e)
		}
		if l, e := meaning.Bag(b, d, r); e != want || (len(l) == 5) != (e == api.OK) {
			t.Errorf("Bag: %v, %v", l, e)
		}
		if l, e := meaning.Given(b, d, nil, r); e != want || (len(l) == 5) != (e == api.OK) {
			t.Errorf("Given: %v, %v", l, e)
		}
		if is, e := meaning.Alike(b, d, r, scan("t")); e != want || is {
			t.Errorf("Alike first: %v, %v", is, e)
		}
		if is, e := meaning.Alike(b, d, scan("t"), r); e != want || is {
			t.Errorf("Alike behind: %v, %v", is, e)
		}
		if v, e := meaning.Ask(b, d, exists(1, r), columns("int"), []api.Value{number(1)}); e != want || (v == yes(true)) != (e == api.OK) {
			t.Errorf("Ask: %v, %v", v, e)
		}
		r = costing(api.MaxWork - 5 + more) // which has 5 rows
		if v, e := meaning.Ask(b, d, in(1, r, ex("$0")), columns("int"), []api.Value{number(-1)}); e != want || (v == yes(false)) != (e == api.OK) {
			t.Errorf("Ask of what is among rows: %v, %v", v, e)
		}
		r = beside(leaf(0, "int"), 1+20, more)
		if l, e := meaning.Given(b, d, [][][]api.Value{values(20).Rows}, r); e != want || (len(l) == 6) != (e == api.OK) {
			t.Errorf("Given leaves: %v, %v", l, e)
		}
	}
	// Each of both may take all of it.
	if is, e := meaning.Alike(b, d, costing(api.MaxWork), costing(api.MaxWork)); !is || e != api.OK {
		t.Errorf("Alike of two: %v, %v", is, e)
	}
}

// TestRows: no node has more than MaxRows rows, wherever it is.
func TestRows(t *testing.T) {
	t.Parallel()
	b, d := shopBase(), shopData()
	most, one1 := values(api.MaxRows), values(1)
	over := union(most, one1)
	yes, no := ex("true"), ex("false")
	for i, c := range []struct {
		rel  api.Rel
		rows int // 0: too many
	}{
		{most, api.MaxRows},
		{union(most, values(0)), api.MaxRows},
		{over, 0},
		{union(one1, most), 0},
		{filter(no, over), 0},
		{count(over), 0},
		{sorted(over, 0, 1), 0},
		{sorted(most, 0, -1), api.MaxRows},
		{mapped(most, ex("add($0, 1)")), api.MaxRows},
		{join(api.Inner, yes, values(200), values(100)), api.MaxRows},
		{join(api.Inner, yes, values(201), values(100)), 0},
		{join(api.Left, no, most, one1), api.MaxRows},
		{join(api.Full, no, one1, values(api.MaxRows-1)), api.MaxRows},
		{join(api.Full, no, one1, most), 0},
		{join(api.Full, no, most, one1), 0},
		{join(api.Semi, yes, most, values(2)), api.MaxRows},
		{join(api.Semi, no, over, values(0)), 0},
		{join(api.Semi, no, values(0), over), 0},
		{apply(1, api.Inner, values(200), values(100)), api.MaxRows},
		{apply(1, api.Inner, values(201), values(100)), 0},
		{apply(1, api.Left, most, values(0)), api.MaxRows},
		{apply(1, api.Semi, one1, over), 0},
		{apply(1, api.Semi, values(0), over), 1 << 20}, // which is not made
		{set(api.RBoth, true, most, most), api.MaxRows},
		{set(api.RMinus, true, values(0), over), 0},
		{group(most, []int{0}), api.MaxRows},
		{filter(exists(1, over), one1), 0},
		{filter(exists(1, over), values(0)), 1 << 20},
		{filter(in(1, over, ex("$0")), one1), 0},
		{filter(node(api.OAnd, no, exists(1, over)), one1), 0},
		{filter(node(api.OIsNull, one(1, over)), one1), 0},
		{filter(node(api.OIsNull, one(1, most)), one1), 1},
	} {
		l, e := meaning.Result(b, d, c.rel)
		if (e == api.OK) != (c.rows > 0) || e != api.OK && e != api.ErrLarge || len(l) != c.rows%(1<<20) {
			t.Errorf("%d, %v: %d rows, %v, not %d", i, c.rel.Op, len(l), e, c.rows)
		}
	}
}

// TestEnds: what would take very long ends.
func TestEnds(t *testing.T) {
	t.Parallel()
	b, d := shopBase(), shopData()
	nested, within := values(10), exists(1, values(10))
	for range 9 {
		nested = apply(1, api.Semi, nested, values(10))
		nested = apply(2, api.Semi, values(10), nested)
		within = exists(1, filter(within, values(10)))
	}
	for i, r := range []api.Rel{
		nested,
		filter(within, values(1)),
		join(api.Semi, ex("false"), values(api.MaxRows), values(api.MaxRows)),
		apply(1, api.Semi, values(api.MaxRows), values(api.MaxRows)),
		filter(exists(1, values(api.MaxRows)), values(api.MaxRows)),
		union(join(api.Semi, ex("false"), values(1000), values(1000)), join(api.Semi, ex("false"), values(1000), values(1000))),
	} {
		if l, e := meaning.Result(b, d, r); l != nil || e != api.ErrLarge {
			t.Errorf("%d: %d rows, %v", i, len(l), e)
		}
	}
}

// TestRandomWork compares the work with that of the model.
func TestRandomWork(t *testing.T) {
	t.Parallel()
	for i := range 24 {
		t.Run(fmt.Sprint(i), func(t *testing.T) {
			t.Parallel()
			m := newMaker(uint64(i))
			r, x := m.sample(m.kinds(3), 3+i%4)
			x.rel(r, nil)
			for more, want := range []api.Errno{api.OK, api.ErrLarge} {
				if _, e := meaning.Given(shopBase(), shopData(), m.leaves, beside(r, x.work, more)); e != want {
					t.Errorf("%v, %d more than MaxWork: %v", r, more, e)
				}
			}
		})
	}
}
