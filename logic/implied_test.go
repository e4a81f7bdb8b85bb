package logic_test

import (
	"math"
	"math/rand/v2"
	"reflect"
	"slices"
	"testing"

	"tactician/api"
	"tactician/logic"
	"tactician/scalar"
)

// P4.2: where null is rejected.
func TestRejects(t *testing.T) {
	for _, c := range []struct {
		expr string
		set  []int
		want bool
	}{
		{"gt($1, 2)", []int{1}, true}, {"gt($1, 2)", []int{6}, false}, {"gt($1, 2)", nil, false}, {"gt($1, $6)", []int{6}, true},
		{"or(gt($1, 2), isnull($1))", []int{1}, false}, {"or(gt($1, 2), gt($6, 2))", []int{1}, false},
		{"or(gt($1, 2), gt($6, 2))", []int{6, 1}, true}, {"and($4, gt($1, 2))", []int{1}, false}, {"istrue(and($4, gt($1, 2)))", []int{1}, false},
		{"not(isnull($1))", []int{1}, true}, {"isnull($1)", []int{1}, false}, {"coalesce($3, false)", []int{3}, true},
		{"coalesce($3, true)", []int{3}, false}, {"same($1, 3)", []int{1}, true}, {"case(isnull($1), false, $4)", []int{1}, true},
		{"$4", []int{4}, true}, {"gt($0, 3)", []int{0}, true}, {"false", nil, true}, {"null:bool", nil, true}, {"true", []int{1}, false},
		{"eq(length($2), 3)", []int{2, 2}, true}, {"not($3)", []int{3}, true}, {"same($1, $6)", []int{1, 6}, false}, {"isnull($0)", []int{0}, false},
	} {
		if got, f := logic.Rejects(parse(c.expr), cols(), c.set); got != c.want || f != api.OK {
			t.Errorf("%s %v: %v %v", c.expr, c.set, got, f)
		}
	}
}

// P4.2, P4.7: Rejects is as defined, and then e is not true.
func TestRejectsRandom(t *testing.T) {
	t.Parallel()
	r := rand.New(rand.NewPCG(3, 4))
	nullable := cols()
	for i := range nullable {
		nullable[i].Null = true
	}
	for i := range 8000 {
		e := anExpr(r, cols(), api.Bool, 1+i%3)
		var set []int
		var by []api.Expr
		for n, c := range cols() {
			by = append(by, col(n))
			if r.IntN(3) == 0 {
				set = append(set, n)
				by[n] = nullOf(c.Kind)
			}
		}
		put, _ := scalar.Put(e, by)
		simple := oracle(put, cols())
		got, f := logic.Rejects(e, cols(), set)
		if want := simple.Op == api.OLit && simple.Lit != yes; got != want || f != api.OK {
			t.Fatalf("%s %v: %v %v", shown(e, api.OK), set, got, f)
		}
		for range 10 {
			row := aRow(r, cols())
			for _, n := range set {
				row[n] = null
			}
			if v, _ := scalar.Eval(e, nullable, row); got && v == yes {
				t.Fatalf("%s is true on %v", shown(e, api.OK), row)
			}
		}
	}
}

// P4.3: pins and classes.
func TestPins(t *testing.T) {
	for _, c := range []struct {
		expr    string
		pins    []logic.Pin
		classes [][]int
	}{
		{"eq($0, 3)", []logic.Pin{{0, number(3)}}, nil}, {"eq(3, $0)", []logic.Pin{{0, number(3)}}, nil},
		{"same($1, 3)", []logic.Pin{{1, number(3)}}, nil}, {"same('b', $2)", []logic.Pin{{2, text("b")}}, nil},
		{"isnull($1)", []logic.Pin{{1, null}}, nil}, {"same(null:int, $1)", []logic.Pin{{1, null}}, nil},
		{"$3", []logic.Pin{{3, yes}}, nil}, {"not($4)", []logic.Pin{{4, no}}, nil}, {"same($3, false)", []logic.Pin{{3, no}}, nil},
		{"and($4, eq($0, 1), $3)", []logic.Pin{{0, number(1)}, {3, yes}, {4, yes}}, nil},
		{"and(eq($0, 2), eq($0, 1))", []logic.Pin{{0, number(2)}}, nil}, {"and(isnull($1), eq($1, 1))", []logic.Pin{{1, null}}, nil},
		{"istrue(and($4, coalesce(eq($1, 1), false)))", []logic.Pin{{1, number(1)}, {4, yes}}, nil},
		{"or($4, $3)", nil, nil}, {"true", nil, nil}, {"false", nil, nil}, {"ne($0, 3)", nil, nil}, {"le($0, 3)", nil, nil},
		{"eq(add($0, 1), 3)", nil, nil}, {"same(add($0, $1), 3)", nil, nil}, {"same(3, div($0, 2))", nil, nil}, {"isnull(add($0, $1))", nil, nil}, {"not(isnull($1))", nil, nil},
		{"not(istrue($3))", nil, nil}, {"and(or($4, $3), $4)", []logic.Pin{{4, yes}}, nil},
		{"eq($0, $1)", nil, [][]int{{0, 1}}}, {"eq($1, $0)", nil, [][]int{{0, 1}}}, {"eq($1, $1)", nil, nil}, {"same($1, $6)", nil, nil},
		{"and(eq($6, $1), eq($2, $5))", nil, [][]int{{1, 6}, {2, 5}}}, {"and(eq($6, $1), eq($6, $0))", nil, [][]int{{0, 1, 6}}},
		{"and(eq($5, $2), eq($1, $6), eq($0, $1), eq($6, $0))", nil, [][]int{{0, 1, 6}, {2, 5}}}, {"or(eq($0, $1), eq($0, $6))", nil, nil},
		{"and(eq($0, $1), ne($1, $6))", nil, [][]int{{0, 1}}}, {"eq(add($0, 1), $1)", nil, nil}, {"eq($0, add($1, 1))", nil, nil},
		{"and(eq($3, $4), $4)", []logic.Pin{{4, yes}}, [][]int{{3, 4}}}, {"not(ne($0, $1))", nil, [][]int{{0, 1}}},
	} {
		p, f := logic.Pins(parse(c.expr), cols())
		l, g := logic.Classes(parse(c.expr), cols())
		if len(p)+len(c.pins) > 0 && !reflect.DeepEqual(p, c.pins) || f != api.OK {
			t.Errorf("%s: pins %v %v", c.expr, p, f)
		}
		if len(l)+len(c.classes) > 0 && !reflect.DeepEqual(l, c.classes) || g != api.OK {
			t.Errorf("%s: classes %v %v", c.expr, l, g)
		}
	}
}

// someCond is the AND of some comparisons, and of others.
func someCond(r *rand.Rand) api.Expr {
	args := []api.Expr{lit(yes), lit(yes)}
	for range 1 + r.IntN(4) {
		args = append(args, someConjunct(r, 1))
	}
	return node(api.OAnd, args...)
}

func someConjunct(r *rand.Rand, depth int) api.Expr {
	n := r.IntN(len(cols()))
	c := cols()[n]
	switch r.IntN(9) {
	case 0:
		return node(api.ONot, node(api.OIsNull, col(n)))
	case 1:
		return anExpr(r, cols(), api.Bool, 1)
	case 2:
		if c.Kind == api.Bool {
			return col(n)
		}
	case 3:
		if c.Kind == api.Bool {
			return node(api.ONot, col(n))
		}
	case 4:
		other := r.IntN(len(cols()))
		if cols()[other].Kind == c.Kind {
			return node(api.OEq, col(n), col(other))
		}
	case 5:
		if depth > 0 {
			return node(api.OOr, someConjunct(r, 0), node(api.OAnd, someConjunct(r, 0), someConjunct(r, depth-1)))
		}
	}
	l := values(c)
	args := []api.Expr{col(n), lit(l[r.IntN(len(l))])}
	args[1].Kind = c.Kind
	if r.IntN(3) == 0 {
		slices.Reverse(args)
	}
	return node(api.OEq+api.Op(r.IntN(7)), args...)
}

// P4.3, P4.9: pins hold, columns of a class are the same; and none is missing that follows from the conjuncts.
func TestPinsRandom(t *testing.T) {
	t.Parallel()
	r := rand.New(rand.NewPCG(5, 4))
	pinned, classed := 0, 0
	for range 3000 {
		e := someCond(r)
		pins, f := logic.Pins(e, cols())
		classes, g := logic.Classes(e, cols())
		if f != api.OK || g != api.OK || !slices.IsSortedFunc(pins, func(a, b logic.Pin) int { return a.Col - b.Col }) {
			t.Fatalf("%s: %v %v %v", shown(e, api.OK), pins, f, g)
		}
		for range 60 {
			row := aRow(r, cols())
			if v, _ := scalar.Eval(e, cols(), row); v != yes {
				continue
			}
			for _, p := range pins {
				pinned++
				if row[p.Col] != p.Value {
					t.Fatalf("%s: %v on %v", shown(e, api.OK), p, row)
				}
			}
			for _, l := range classes {
				classed++
				for _, n := range l {
					if row[n] != row[l[0]] || row[n] == null {
						t.Fatalf("%s: %v on %v", shown(e, api.OK), l, row)
					}
				}
			}
		}
		checkClasses(t, e, classes)
	}
	if pinned < 1000 || classed < 100 {
		t.Errorf("only %d pins, %d classes", pinned, classed)
	}
}

// checkClasses holds classes against the pairs that are linked by way of others.
func checkClasses(t *testing.T, e api.Expr, classes [][]int) {
	l, _ := scalar.Conjuncts(conditionBy(e, cols()))
	n := len(cols())
	linked := make([][]bool, n)
	for i := range linked {
		linked[i] = make([]bool, n)
	}
	for _, x := range l {
		if x.Op == api.OEq && x.Args[0].Op == api.OCol && x.Args[1].Op == api.OCol {
			a, b := x.Args[0].N, x.Args[1].N
			linked[a][b], linked[b][a] = true, true
		}
	}
	for k := range n {
		for i := range n {
			for j := range n {
				linked[i][j] = linked[i][j] || linked[i][k] && linked[k][j]
			}
		}
	}
	var want [][]int
	for i := range n {
		class := []int{i}
		for j := range n {
			if j != i && linked[i][j] {
				class = append(class, j)
			}
		}
		if len(class) > 1 && slices.Min(class) == i {
			want = append(want, class)
		}
	}
	if len(want)+len(classes) > 0 && !reflect.DeepEqual(want, classes) {
		t.Fatalf("%s: classes %v, not %v", shown(e, api.OK), classes, want)
	}
}

// P4.4: what follows, and what does not.
func TestImplies(t *testing.T) {
	for _, c := range []struct {
		p, q string
		want bool
	}{
		{"$3", "true", true}, {"true", "true", true}, {"true", "false", false}, {"$3", "false", false}, {"false", "$3", true},
		{"null:bool", "$4", true}, {"and($3, $4)", "$4", true}, {"$4", "and($3, $4)", false}, {"and($3, $4, isnull($1))", "and(isnull($1), $3)", true},
		// the range is empty
		{"and(gt($0, 3), lt($0, 4))", "$3", true}, {"and(gt($0, 3), lt($0, 5))", "$3", false}, {"gt($0, 9223372036854775807)", "$3", true},
		{"lt($0, -9223372036854775808)", "$3", true}, {"ge($0, 9223372036854775807)", "$3", false}, {"and(ge($2, 'a'), lt($2, 'a'))", "$3", true},
		{"and(gt($2, 'a'), le($2, 'a'))", "$3", true}, {"and(gt($2, 'a'), lt($2, 'aa'))", "$3", false}, {"and(ge($2, 'a'), le($2, 'a'))", "$3", false},
		{"and(ge($2, 'a'), le($2, 'a'), ne($2, 'a'))", "$3", true}, {"and(eq($0, 3), ne($0, 3))", "$3", true}, {"and(eq($0, 3), eq($0, 4))", "$3", true},
		{"and(ge($0, 3), le($0, 4), ne($0, 3), ne($0, 4))", "$3", false}, {"and($4, not($4))", "$3", true}, {"and($4, ne($4, true))", "$3", true},
		{"and(ge($2, 'b'), le($2, 'a'))", "$3", true}, {"gt($4, true)", "$3", false}, {"lt($2, '')", "$3", false}, {"and(gt($0, 3), lt($1, 4))", "$3", false},
		{"and(gt($0, 9223372036854775807), lt($0, 5))", "$3", true},
		// OEq
		{"and(gt($0, 3), lt($0, 5))", "eq($0, 4)", true}, {"and(gt($0, 3), lt($0, 6))", "eq($0, 4)", false}, {"and(gt($0, 3), lt($0, 5))", "eq($1, 4)", false},
		{"le($0, 4)", "eq($0, 4)", false}, {"ge($0, 4)", "eq($0, 4)", false}, {"and(ge($2, 'a'), le($2, 'a'))", "eq($2, 'a')", true},
		{"and(ge($2, 'a'), le($2, 'b'))", "eq($2, 'a')", false}, {"and(ge($4, true), le($4, true))", "$4", true}, {"and(ge($4, false), le($4, false))", "not($4)", true},
		{"ge($4, true)", "$4", false}, {"$4", "ge($4, true)", true}, {"not($4)", "lt($4, true)", true}, {"$3", "eq($3, true)", true}, {"$3", "not($3)", false},
		// ONe
		{"gt($0, 3)", "ne($0, 3)", true}, {"gt($0, 3)", "ne($0, 4)", false}, {"lt($0, 3)", "ne($0, 3)", true}, {"lt($0, 3)", "ne($0, 2)", false},
		{"and(gt($0, 3), ne($0, 9))", "ne($0, 9)", true}, {"and(ne($0, 3), ne($0, 4), gt($0, 1))", "ne($0, 4)", true}, {"gt($2, 'a')", "ne($2, 'a')", true},
		{"ge($2, 'a')", "ne($2, 'a')", false}, {"le($2, 'a')", "ne($2, 'a')", false}, {"lt($2, 'a')", "ne($2, 'a')", true}, {"eq($0, 3)", "ne($0, 4)", true},
		{"$3", "ne($0, 4)", false}, {"$4", "ne($4, false)", true}, {"ne($3, false)", "$3", false},
		// OLt to OGe
		{"gt($0, 3)", "gt($0, 2)", true}, {"gt($0, 3)", "gt($0, 3)", true}, {"gt($0, 3)", "ge($0, 4)", true}, {"ge($0, 4)", "gt($0, 3)", true},
		{"gt($0, 3)", "gt($0, 4)", false}, {"gt($0, 3)", "lt($0, 9)", false}, {"lt($0, 3)", "le($0, 2)", true}, {"le($0, 2)", "lt($0, 3)", true},
		{"lt($0, 3)", "lt($0, 2)", false}, {"lt($0, 3)", "lt($0, 4)", true}, {"lt($0, 3)", "ge($0, 0)", false}, {"gt($2, 'a')", "ge($2, 'a')", true},
		{"ge($2, 'a')", "gt($2, 'a')", false}, {"gt($2, 'a')", "gt($2, 'a')", true}, {"lt($2, 'b')", "le($2, 'b')", true}, {"le($2, 'b')", "lt($2, 'b')", false},
		{"eq($2, 'b')", "lt($2, 'c')", true}, {"eq($2, 'b')", "ge($2, 'b')", true}, {"eq($2, 'b')", "gt($2, 'b')", false}, {"and(ge($2, 'b'), gt($2, 'b'))", "gt($2, 'b')", true},
		{"and(gt($2, 'b'), ge($2, 'b'))", "gt($2, 'b')", true}, {"and(lt($2, 'b'), le($2, 'b'), lt($2, 'c'))", "lt($2, 'b')", true},
		{"ge($0, 3)", "gt($0, 9223372036854775807)", false}, {"eq($0, 9223372036854775807)", "gt($0, 9223372036854775806)", true},
		{"le($0, 3)", "lt($0, -9223372036854775808)", false}, {"gt($0, 3)", "gt($6, 2)", false}, {"eq($0, $1)", "eq($1, $0)", false},
		// ONot of OIsNull
		{"eq($1, 7)", "not(isnull($1))", true}, {"eq($1, 7)", "not(isnull($6))", false}, {"eq($1, $6)", "not(isnull($6))", true},
		{"or(eq($1, 7), gt($1, 9))", "not(isnull($1))", true}, {"or(eq($1, 7), isnull($1))", "not(isnull($1))", false}, {"true", "not(isnull($0))", true},
		{"and(gt(add($1, $6), 2), $3)", "and(not(isnull($1)), not(isnull($6)), not(isnull($3)))", true}, {"isnull($1)", "not(isnull($1))", false},
		{"gt($1, 2)", "not(isnull(add($1, 1)))", false}, {"not(isnull(add($1, 1)))", "not(isnull($1))", true}, {"not(isnull($1))", "gt($1, 2)", false},
		// OOr
		{"gt($0, 3)", "or($3, gt($0, 0))", true}, {"gt($0, 3)", "or($3, gt($0, 4))", false}, {"gt($0, 3)", "or($3, and(gt($0, 0), ne($0, 2)))", true},
		{"gt($0, 3)", "or($3, and(gt($0, 0), ne($0, 5)))", false}, {"or($3, $4)", "or($3, $4)", true}, {"or($3, $4)", "or($4, $3)", false},
		{"$4", "or($3, and($4, or(isnull($1), and($4, not(isnull($3))))))", false}, {"and($3, $4)", "or(isnull($1), and($4, or(isnull($1), and($4, not(isnull($3))))))", true},
		// as conditions
		{"istrue($3)", "coalesce($3, false)", true}, {"not(or(lt($0, 4), isnull($1)))", "gt($0, 3)", true}, {"not(istrue($3))", "not($3)", false}, {"not($3)", "not(istrue($3))", false},
	} {
		if got, f := logic.Implies(parse(c.p), parse(c.q), cols()); got != c.want || f != api.OK {
			t.Errorf("%s, %s: %v %v", c.p, c.q, got, f)
		}
	}
}

// interval is a range in the numbers 2v, with odd ones for strict bounds: of texts v counts those that the tests use.
type interval struct {
	low, high int64
	out       []int64
}

// place is where a value is, and whether what is just beside it is another value.
func place(v api.Value) (at, beside int64) {
	if v.Kind == api.Text {
		return 2 * int64(slices.Index([]string{"", "a", "b", "c"}, v.Text)), 1
	}
	if v.Kind == api.Int {
		return 2 * v.Int, 2
	}
	return 2 * v.Int, 1
}

// asInterval is the interval of a comparison with a literal.
func asInterval(e api.Expr) (int, interval, bool) {
	all := interval{low: math.MinInt64, high: math.MaxInt64}
	op, c, v := e.Op, e, yes
	switch {
	case e.Op == api.OCol:
		op = api.OEq
	case e.Op == api.ONot && e.Args[0].Op == api.OCol:
		op, c, v = api.OEq, e.Args[0], no
	case e.Op >= api.OEq && e.Op <= api.OGe && e.Args[0].Op == api.OCol && e.Args[1].Op == api.OLit:
		c, v = e.Args[0], e.Args[1].Lit
	default:
		return 0, all, false
	}
	at, beside := place(v)
	switch op {
	case api.OEq:
		all.low, all.high = at, at
	case api.ONe:
		all.out = []int64{at}
	case api.OLt:
		all.high = at - beside
	case api.OLe:
		all.high = at
	case api.OGt:
		all.low = at + beside
	case api.OGe:
		all.low = at
	}
	return c.N, all, true
}

// impliedBy is what follows, by the definition.
func impliedBy(p, q api.Expr) bool {
	known, _ := scalar.Conjuncts(conditionBy(p, cols()))
	ranges := map[int]interval{}
	for _, e := range known {
		if reflect.DeepEqual(e, lit(no)) {
			return true
		}
		if n, x, ok := asInterval(e); ok {
			old, there := ranges[n]
			if there {
				x = interval{max(old.low, x.low), min(old.high, x.high), append(x.out, old.out...)}
			}
			ranges[n] = x
		}
	}
	for _, x := range ranges {
		if x.low > x.high || x.low == x.high && slices.Contains(x.out, x.low) {
			return true
		}
	}
	return all(conditionBy(q, cols()), known, ranges)
}

// all tells whether all conjuncts of e are implied.
func all(e api.Expr, known []api.Expr, ranges map[int]interval) bool {
	l, _ := scalar.Conjuncts(e)
	for _, x := range l {
		if !isImplied(x, known, ranges) {
			return false
		}
	}
	return true
}

func isImplied(e api.Expr, known []api.Expr, ranges map[int]interval) bool {
	for _, x := range append(known, lit(yes)) {
		if reflect.DeepEqual(x, e) {
			return true
		}
	}
	if n, x, ok := asInterval(e); ok {
		p, there := ranges[n]
		if !there {
			return false
		}
		for _, v := range x.out {
			if p.low <= v && v <= p.high && !slices.Contains(p.out, v) {
				return false
			}
		}
		return x.low <= p.low && p.high <= x.high
	}
	if e.Op == api.OOr {
		return slices.ContainsFunc(e.Args, func(a api.Expr) bool { return all(a, known, ranges) })
	}
	if e.Op != api.ONot || e.Args[0].Op != api.OIsNull || e.Args[0].Args[0].Op != api.OCol {
		return false
	}
	return slices.ContainsFunc(known, func(x api.Expr) bool {
		is, _ := logic.Rejects(x, cols(), []int{e.Args[0].Args[0].N})
		return is
	})
}

// P4.4, P4.8: Implies is as defined, and then q is true where p is; each condition implies itself and true.
func TestImpliesRandom(t *testing.T) {
	t.Parallel()
	r := rand.New(rand.NewPCG(6, 4))
	count := 0
	for i := range 8000 {
		p, q := someCond(r), someConjunct(r, 1)
		if i%3 == 0 {
			q = someCond(r)
		}
		got, f := logic.Implies(p, q, cols())
		if want := impliedBy(p, q); got != want || f != api.OK {
			t.Fatalf("%s, %s: %v %v", shown(p, api.OK), shown(q, api.OK), got, f)
		}
		itself, _ := logic.Implies(p, p, cols())
		truth, _ := logic.Implies(p, lit(yes), cols())
		if !itself || !truth {
			t.Fatalf("%s: itself %v, true %v", shown(p, api.OK), itself, truth)
		}
		if !got {
			continue
		}
		count++
		for range 20 {
			row := aRow(r, cols())
			a, _ := scalar.Eval(p, cols(), row)
			if b, _ := scalar.Eval(q, cols(), row); a == yes && b != yes {
				t.Fatalf("%s, %s: not on %v", shown(p, api.OK), shown(q, api.OK), row)
			}
		}
	}
	if count < 1000 {
		t.Errorf("only %d are implied", count)
	}
}

// P4.4: a conjunct that is too large with null in it rejects nothing, and is no error.
func TestImpliesTooLargeWithNull(t *testing.T) {
	cols := append(truths(true)[:15], api.Col{Kind: api.Int, Null: true})
	var groups []api.Expr
	for i := range 15 {
		var l []api.Expr
		for j := range 15 {
			l = append(l, col((i+j)%15))
		}
		groups = append(groups, node(api.OOr, l...))
	}
	// where $15 is null, the ONot goes down into the ANDs
	p := node(api.ONot, node(api.OCase, node(api.OIsNull, col(15)), node(api.OAnd, groups...), col(0)))
	if _, f := logic.Rejects(p, cols, []int{15}); f != api.ErrLarge {
		t.Fatalf("Rejects: %v", f)
	}
	if is, f := logic.Implies(p, node(api.ONot, node(api.OIsNull, col(15))), cols); is || f != api.OK {
		t.Errorf("%v %v", is, f)
	}
}
