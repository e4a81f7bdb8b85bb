package scalar_test

import (
	"math"
	"math/rand/v2"
	"reflect"
	"slices"
	"strings"
	"testing"

	"tactician/api"
	"tactician/scalar"
	"tactician/value"
)

var (
	null = api.Value{}
	yes  = api.Value{Kind: api.Bool, Int: 1}
	no   = api.Value{Kind: api.Bool}
	none = api.Value{Kind: api.Bool, Int: 2}
)

func number(n int64) api.Value { return api.Value{Kind: api.Int, Int: n} }

func text(s string) api.Value { return api.Value{Kind: api.Text, Text: s} }

func col(n int) api.Expr { return api.Expr{Op: api.OCol, N: n} }

func outer(n, m int) api.Expr { return api.Expr{Op: api.OOuter, N: n, M: m} }

func lit(v api.Value) api.Expr { return api.Expr{Op: api.OLit, Kind: v.Kind, Lit: v} }

func nullOf(k api.Kind) api.Expr { return api.Expr{Op: api.OLit, Kind: k} }

func node(op api.Op, args ...api.Expr) api.Expr { return api.Expr{Op: op, Args: args} }

// words are the operations with Args, from OAdd on.
var words = strings.Fields("add sub mul div mod neg concat length eq ne lt le gt ge same and or not isnull istrue case coalesce")

// counts tells how many Args an operation may have.
func counts(op api.Op) []int {
	switch op {
	case api.ONeg, api.OLength, api.ONot, api.OIsNull, api.OIsTrue:
		return []int{1}
	case api.OAnd, api.OOr, api.OCoalesce:
		return []int{2, 3, 4, 5, 6, 7, 8, 9, 10, 11, 12, 13, 14, 15, 16}
	case api.OCase:
		return []int{3, 5, 7, 9, 11, 13, 15}
	}
	return []int{2}
}

// sixCols has a column of each kind, without and with null.
func sixCols() []api.Col {
	return []api.Col{
		{Kind: api.Int}, {Kind: api.Int, Null: true},
		{Kind: api.Bool}, {Kind: api.Bool, Null: true},
		{Kind: api.Text}, {Kind: api.Text, Null: true},
	}
}

// fitting has values of a kind.
func fitting(k api.Kind) []api.Value {
	switch k {
	case api.Int:
		return []api.Value{
			number(math.MinInt64), number(math.MinInt64 + 1), number(-10), number(-7), number(-2), number(-1), number(0),
			number(1), number(2), number(3), number(7), number(1 << 32), number(math.MaxInt64),
		}
	case api.Bool:
		return []api.Value{no, yes}
	}
	return []api.Value{
		text(""), text("'"), text("a"), text("aa"), text("ab"), text("b"), text("~ "),
		text(strings.Repeat("a", 100)), text(strings.Repeat("b", api.MaxText-1)), text(strings.Repeat("c", api.MaxText)),
	}
}

// must is the expression that a call has returned.
func must(t *testing.T) func(e api.Expr, f api.Errno) api.Expr {
	return func(e api.Expr, f api.Errno) api.Expr {
		t.Helper()
		if f != api.OK {
			t.Fatalf("%v", f)
		}
		return e
	}
}

func parse(s string) api.Expr {
	e, f := scalar.Parse(s)
	if f != api.OK {
		panic(s)
	}
	return e
}

// shown is the string of an expression, by its definition; of any data.
func shown(e api.Expr) string {
	number := func(n int) string { s, _ := value.String(number(int64(n))); return s }
	switch e.Op {
	case api.OCol:
		return "$" + number(e.N)
	case api.OOuter:
		return "^" + number(e.N) + "." + number(e.M)
	case api.OLit:
		s, _ := value.String(e.Lit)
		if e.Lit == null {
			s += ":" + map[api.Kind]string{api.Int: "int", api.Bool: "bool", api.Text: "text"}[e.Kind]
		}
		return s
	}
	if e.Op < api.OAdd || e.Op > api.OCoalesce {
		return "?" + number(int(e.Op))
	}
	var args []string
	for _, a := range e.Args {
		args = append(args, shown(a))
	}
	return words[e.Op-api.OAdd] + "(" + strings.Join(args, ", ") + ")"
}

// equal tells whether a and b are equal data, whatever they are.
func equal(a, b api.Expr) bool {
	return reflect.DeepEqual(deep(a), deep(b))
}

// deep is a copy of e in which no list is empty but not nil.
func deep(e api.Expr) api.Expr {
	var args []api.Expr
	for _, a := range e.Args {
		args = append(args, deep(a))
	}
	e.Args = args
	if len(e.Rels) == 0 {
		e.Rels = nil
	}
	return e
}

func nodes(e api.Expr) int {
	n := 1
	for _, a := range e.Args {
		n += nodes(a)
	}
	return n
}

func depth(e api.Expr) int {
	n := 0
	for _, a := range e.Args {
		n = max(n, depth(a))
	}
	return n + 1
}

// chain has levels nodes, one in the other, the innermost one being e.
func chain(levels int, e api.Expr) api.Expr {
	for range levels - 1 {
		e = node(api.OIsNull, e)
	}
	return e
}

// wide has n nodes: of e, which has one node, in lists of at most MaxCols.
func wide(n int, e api.Expr) api.Expr {
	if n <= 2 {
		return chain(n, e)
	}
	n--
	parts := min(n, api.MaxCols)
	out := api.Expr{Op: api.OCoalesce}
	if parts < 2 {
		out.Op = api.OIsNull
	}
	for i := range parts {
		out.Args = append(out.Args, wide(n/parts+(n%parts+parts-1-i)/parts, e))
	}
	return out
}

// grown is an expression of the kind k, on sixCols, at most levels deep.
func grown(r *rand.Rand, k api.Kind, levels int) api.Expr {
	if levels == 1 || r.IntN(6) == 0 {
		return leafOf(r, k)
	}
	list := func(op api.Op, k api.Kind, n int) api.Expr {
		out := api.Expr{Op: op}
		for range n {
			out.Args = append(out.Args, grown(r, k, levels-1))
		}
		return out
	}
	ops := map[api.Kind][]api.Op{
		api.Int:  {api.OAdd, api.OSub, api.OMul, api.ODiv, api.OMod, api.ONeg, api.OLength},
		api.Bool: {api.OEq, api.ONe, api.OLt, api.OLe, api.OGt, api.OGe, api.OSame, api.OAnd, api.OOr, api.ONot, api.OIsNull, api.OIsTrue, api.OAnd},
		api.Text: {api.OConcat},
	}[k]
	op := append(ops, api.OCase, api.OCoalesce)[r.IntN(len(ops)+2)]
	n := counts(op)[0]
	switch op {
	case api.OAnd, api.OOr:
		return list(op, api.Bool, n+r.IntN(2))
	case api.OCoalesce:
		return list(op, k, n+r.IntN(2))
	case api.OCase:
		out := api.Expr{Op: op}
		for range 1 + r.IntN(2) {
			out.Args = append(out.Args, grown(r, api.Bool, levels-1), grown(r, k, levels-1))
		}
		out.Args = append(out.Args, grown(r, k, levels-1))
		return out
	case api.ONot, api.OIsTrue:
		return list(op, api.Bool, n)
	case api.OLength, api.OConcat:
		return list(op, api.Text, n)
	}
	if k == api.Bool {
		return list(op, api.Int+api.Kind(r.IntN(3)), n)
	}
	return list(op, k, n)
}

func leafOf(r *rand.Rand, k api.Kind) api.Expr {
	switch r.IntN(4) {
	case 0:
		return lit(fitting(k)[r.IntN(len(fitting(k)))])
	case 1:
		return nullOf(k)
	}
	return col(2*int(k-api.Int) + r.IntN(2))
}

// rowOf is a row that fits cols.
func rowOf(r *rand.Rand, cols []api.Col) []api.Value {
	var out []api.Value
	for _, c := range cols {
		l := fitting(c.Kind)
		if c.Null {
			l = append(l, null, null)
		}
		out = append(out, l[r.IntN(len(l))])
	}
	return out
}

// some calls each for many expressions on sixCols, the same ones each time.
func some(t *testing.T, times int, each func(r *rand.Rand, e api.Expr)) {
	r := rand.New(rand.NewPCG(3, 8))
	for i := range times {
		e := grown(r, api.Int+api.Kind(i%3), 2+i%5)
		if nodes(e) > api.MaxNodes {
			continue
		}
		each(r, e)
		if t.Failed() {
			t.Fatalf("at %s", shown(e))
		}
	}
}

// P3.2

func TestColumns(t *testing.T) {
	for s, want := range map[string][]int{
		"add($2, mul($0, $2))": {0, 2},
		"$0":                   {0},
		"$9223372036854775807": {math.MaxInt},
		"1":                    nil,
		"null:int":             nil,
		"'$1'":                 nil,
		"^1.7":                 nil,
		"and($7, ^2.3, or(not($10), $7), eq(1, 2))": {7, 10},
		"case($5, $4, $3, $2, $1)":                  {1, 2, 3, 4, 5},
		"coalesce($3, $3, $3)":                      {3},
	} {
		if l, f := scalar.Columns(parse(s)); !slices.Equal(l, want) || f != api.OK {
			t.Errorf("%s: %v, %v, not %v", s, l, f, want)
		}
	}
}

func TestMove(t *testing.T) {
	for _, c := range []struct {
		e    string
		to   []int
		want string
	}{
		{"add($2, mul($0, $2))", []int{3, -1, 1}, "add($1, mul($3, $1))"},
		{"add($2, mul($0, $2))", []int{3, 1}, ""},
		{"add($2, mul($0, $2))", []int{3, 1, -1}, ""},
		{"add($2, mul($0, $2))", []int{-1, 1, 3}, ""},
		{"add($2, mul($0, $2))", []int{0, 0, 0, -5}, "add($0, mul($0, $0))"},
		{"add($0, $1)", []int{1, 0}, "add($1, $0)"},
		{"$0", []int{math.MaxInt}, "$9223372036854775807"},
		{"$0", []int{math.MinInt}, ""},
		{"$0", []int{}, ""},
		{"$0", nil, ""},
		{"$9223372036854775807", []int{1}, ""},
		{"1", nil, "1"},
		{"^1.0", nil, "^1.0"},
		{"eq(^1.0, 'a')", []int{7}, "eq(^1.0, 'a')"},
		{"add($0, 'a')", []int{7}, "add($7, 'a')"}, // kinds do not matter
	} {
		e, f := scalar.Move(parse(c.e), c.to)
		if c.want == "" && (f != api.ErrArg || !equal(e, api.Expr{})) {
			t.Errorf("%s to %v: %s, %v, not ErrArg", c.e, c.to, shown(e), f)
		}
		if c.want != "" && (f != api.OK || !equal(e, parse(c.want))) {
			t.Errorf("%s to %v: %s, %v, not %s", c.e, c.to, shown(e), f, c.want)
		}
	}
}

func TestPut(t *testing.T) {
	for _, c := range []struct {
		e    string
		by   []string
		want string
	}{
		{"add($2, mul($0, $2))", []string{"7", "$9", "neg($1)"}, "add(neg($1), mul(7, neg($1)))"},
		{"add($2, mul($0, $2))", []string{"7", "$9"}, ""},
		{"add($2, mul($0, $2))", []string{"7"}, ""},
		{"$0", []string{"$0"}, "$0"},
		{"$1", []string{"$1", "$0"}, "$0"},
		{"add($0, $1)", []string{"$1", "$0"}, "add($1, $0)"},
		{"$0", nil, ""},
		{"$9223372036854775807", []string{"1"}, ""},
		{"1", nil, "1"},
		{"^1.0", []string{"2"}, "^1.0"},
		{"neg($0)", []string{"^2.1"}, "neg(^2.1)"},
		{"neg($0)", []string{"'a'"}, "neg('a')"}, // kinds do not matter
		{"and($0, $0)", []string{"and($0, $1)"}, "and(and($0, $1), and($0, $1))"},
	} {
		var by []api.Expr
		for _, s := range c.by {
			by = append(by, parse(s))
		}
		e, f := scalar.Put(parse(c.e), by)
		if c.want == "" && (f != api.ErrArg || !equal(e, api.Expr{})) {
			t.Errorf("%s by %v: %s, %v, not ErrArg", c.e, c.by, shown(e), f)
		}
		if c.want != "" && (f != api.OK || !equal(e, parse(c.want))) {
			t.Errorf("%s by %v: %s, %v, not %s", c.e, c.by, shown(e), f, c.want)
		}
	}
}

func TestPutTooLarge(t *testing.T) {
	for _, c := range []struct {
		name string
		e    api.Expr
		by   []api.Expr
		want api.Errno
	}{
		{"as deep as may be", chain(10, col(0)), []api.Expr{chain(15, col(0))}, api.OK},
		{"too deep", chain(10, col(0)), []api.Expr{chain(16, col(0))}, api.ErrLarge},
		{"too deep at a place", node(api.OAdd, lit(null), col(1)), []api.Expr{col(0), chain(24, col(0))}, api.ErrExpr},
		{"too deep at one place", node(api.OAdd, col(0), col(1)), []api.Expr{col(0), chain(24, col(0))}, api.ErrLarge},
		{"as deep as it is", col(0), []api.Expr{chain(24, col(0))}, api.OK},
		{"not used", lit(yes), []api.Expr{chain(24, col(0))}, api.OK},
		{"as many as may be", node(api.OAdd, col(0), col(1)), []api.Expr{wide(200, col(0)), wide(199, col(0))}, api.OK},
		{"too many", node(api.OAdd, col(0), col(1)), []api.Expr{wide(200, col(0)), wide(200, col(0))}, api.ErrLarge},
		{"one of them often", wide(20, col(0)), []api.Expr{wide(400, col(0))}, api.ErrLarge},
		{"all at all", wide(400, col(0)), []api.Expr{wide(400, col(0))}, api.ErrLarge},
		{"many as they are", wide(400, col(0)), []api.Expr{lit(yes)}, api.OK},
		{"many by more", wide(400, col(0)), []api.Expr{chain(2, col(0))}, api.ErrLarge},
		{"not there, and too large", node(api.OAdd, col(0), col(1)), []api.Expr{wide(400, col(0))}, api.ErrArg},
		{"not there, and not the form", col(1), []api.Expr{chain(25, col(0))}, api.ErrExpr},
		{"not the form, and not used", lit(yes), []api.Expr{col(0), wide(401, col(0))}, api.ErrExpr},
	} {
		e, f := scalar.Put(c.e, c.by)
		if f != c.want {
			t.Errorf("%s: %v, not %v", c.name, f, c.want)
		}
		if f != api.OK && !equal(e, api.Expr{}) {
			t.Errorf("%s: %s next to an error", c.name, shown(e))
		}
		if f == api.OK && scalar.Check(e) != api.OK {
			t.Errorf("%s: %s has not the form", c.name, shown(e))
		}
	}
}

// P3.3

func TestConjuncts(t *testing.T) {
	for s, want := range map[string]string{
		"and($3, and(isnull($1), $3), true)": "$3; isnull($1); $3; true",
		"$0":                                 "$0",
		"1":                                  "1",
		"^1.0":                               "^1.0",
		"or(and($0, $1), $2)":                "or(and($0, $1), $2)",
		"not(and($0, $1))":                   "not(and($0, $1))",
		"and(and(and($0, $1), $2), and($3, and($4, $5)))": "$0; $1; $2; $3; $4; $5",
		"and(or(and($0, $1), $2), $3)":                    "or(and($0, $1), $2); $3",
		"and(1, 'a')":                                     "1; 'a'",
	} {
		l, f := scalar.Conjuncts(parse(s))
		var got []string
		for _, e := range l {
			got = append(got, shown(e))
		}
		if strings.Join(got, "; ") != want || f != api.OK {
			t.Errorf("%s: %v, %v, not %s", s, got, f, want)
		}
	}
}

func TestJoined(t *testing.T) {
	if e, f := scalar.Joined(nil); !equal(e, lit(yes)) || f != api.OK {
		t.Errorf("none: %s, %v", shown(e), f)
	}
	if e, f := scalar.Joined([]api.Expr{}); !equal(e, lit(yes)) || f != api.OK {
		t.Errorf("an empty list: %s, %v", shown(e), f)
	}
	for _, s := range []string{"$0", "and($0, $1)", "1", "null:text", "^1.0"} {
		if e, f := scalar.Joined([]api.Expr{parse(s)}); !equal(e, parse(s)) || f != api.OK {
			t.Errorf("%s: %s, %v", s, shown(e), f)
		}
	}
	if e, f := scalar.Joined([]api.Expr{parse("and($0, $1)"), parse("2")}); shown(e) != "and(and($0, $1), 2)" || f != api.OK {
		t.Errorf("two: %s, %v", shown(e), f)
	}
	for n := 2; n <= 346; n++ {
		e, f := scalar.Joined(columns(n))
		if f != api.OK {
			t.Fatalf("%d: %v", n, f)
		}
		if want := conjunction(columns(n)); !equal(e, want) {
			t.Fatalf("%d: %s, not %s", n, shown(e), shown(want))
		}
	}
}

// columns are the first n columns.
func columns(n int) (out []api.Expr) {
	for i := range n {
		out = append(out, col(i))
	}
	return out
}

// conjunction joins two or more by the definition, from the end.
func conjunction(l []api.Expr) api.Expr {
	last := 0
	for len(l)-last > 16 {
		last += 15
	}
	out := node(api.OAnd, l[last:]...)
	for last > 0 {
		last -= 15
		out = node(api.OAnd, append(slices.Clone(l[last:last+15]), out)...)
	}
	return out
}

func TestJoinedTooLarge(t *testing.T) {
	for _, c := range []struct {
		name string
		l    []api.Expr
		want api.Errno
	}{
		{"as deep as may be", columns(346), api.OK}, // 22 times 15, and 16
		{"too deep", columns(347), api.ErrLarge},
		{"too many", columns(400), api.ErrLarge},
		{"more than nodes", columns(401), api.ErrLarge},
		{"very many", columns(100000), api.ErrLarge},
		{"one of any size", []api.Expr{wide(400, col(0))}, api.OK},
		{"one of any depth", []api.Expr{chain(24, col(0))}, api.OK},
		{"two, one too deep", []api.Expr{chain(24, col(0)), col(0)}, api.ErrLarge},
		{"two, as deep as may be", []api.Expr{chain(23, col(0)), col(0)}, api.OK},
		{"two, as many as may be", []api.Expr{wide(199, col(0)), wide(200, col(0))}, api.OK},
		{"two, too many", []api.Expr{wide(200, col(0)), wide(200, col(0))}, api.ErrLarge},
		{"sixteen of each size", slices.Repeat([]api.Expr{wide(400, col(0))}, 16), api.ErrLarge},
		{"many, too large, and one of them none", append(columns(1000), node(api.OAdd)), api.ErrExpr},
	} {
		e, f := scalar.Joined(c.l)
		if f != c.want || f != api.OK && !equal(e, api.Expr{}) || f == api.OK && scalar.Check(e) != api.OK {
			t.Errorf("%s: %v, not %v; %.50s", c.name, f, c.want, shown(e))
		}
	}
}

// R4: arguments are neither changed nor kept, what lies beyond them is not read, and results are new memory.

// spread is and(or($0, $1), 'a'), with lists that go on beyond their ends, and empty ones with memory behind them.
func spread() (e api.Expr, whole func() []api.Expr) {
	bad := api.Expr{Op: 99}
	leaves := []api.Expr{col(0), col(1), bad}
	for i := range leaves {
		leaves[i].Args = []api.Expr{bad, bad}[:0]
		leaves[i].Rels = []api.Rel{{N: 7}}[:0]
	}
	args := []api.Expr{{Op: api.OOr, Args: leaves[:2], Rels: []api.Rel{{N: 7}}[:0]}, lit(text("a")), bad}
	return api.Expr{Op: api.OAnd, Args: args[:2]}, func() []api.Expr { return slices.Concat(args, leaves) }
}

// wipe overwrites all the memory that a result has.
func wipe(e *api.Expr) {
	e.Args = e.Args[:cap(e.Args)]
	for i := range e.Args {
		wipe(&e.Args[i])
	}
	e.Rels = e.Rels[:cap(e.Rels)]
	clear(e.Rels)
	*e = api.Expr{Op: 77}
}

// lists are all the memory of the Args and Rels in e.
func lists(e api.Expr) (args []*api.Expr, rels []*api.Rel) {
	whole := e.Args[:cap(e.Args)]
	for i := range whole {
		args = append(args, &whole[i])
		a, r := lists(whole[i])
		args, rels = append(args, a...), append(rels, r...)
	}
	behind := e.Rels[:cap(e.Rels)]
	for i := range behind {
		rels = append(rels, &behind[i])
	}
	return args, rels
}

func TestMemory(t *testing.T) {
	e, whole := spread()
	before := slices.Clone(whole())
	single := func(x api.Expr, f api.Errno) []api.Expr { return []api.Expr{must(t)(x, f)} }
	results := map[string]func() []api.Expr{
		"Move":          func() []api.Expr { return single(scalar.Move(e, []int{1, 0, 9}[:2])) },
		"Put":           func() []api.Expr { return single(scalar.Put(e, []api.Expr{e, e, {Op: 99}}[:2])) },
		"Put of itself": func() []api.Expr { return single(scalar.Put(col(0), []api.Expr{e})) },
		"Joined of one": func() []api.Expr { return single(scalar.Joined([]api.Expr{e, {Op: 99}}[:1])) },
		"Joined":        func() []api.Expr { return single(scalar.Joined(slices.Repeat([]api.Expr{e}, 17))) },
		"Conjuncts": func() []api.Expr {
			l, f := scalar.Conjuncts(node(api.OAnd, e, e, e.Args[0]))
			if len(l) != 5 || f != api.OK {
				t.Errorf("Conjuncts: %d, %v", len(l), f)
			}
			return l
		},
		"Conjuncts of one": func() []api.Expr {
			l, f := scalar.Conjuncts(e.Args[0])
			if len(l) != 1 || f != api.OK {
				t.Errorf("Conjuncts: %d, %v", len(l), f)
			}
			return l
		},
	}
	for name, result := range results {
		l, again := result(), result()
		want := deep(node(api.OCoalesce, again...))
		args, rels := lists(node(api.OCoalesce, l...))
		given, givenRels := lists(e)
		seen := map[*api.Expr]bool{}
		for _, a := range args {
			if seen[a] || slices.Contains(given, a) {
				t.Errorf("%s: the result shares memory with itself or with the argument", name)
			}
			seen[a] = true
		}
		if slices.ContainsFunc(rels, func(r *api.Rel) bool { return slices.Contains(givenRels, r) }) {
			t.Errorf("%s: the result shares relations with the argument", name)
		}
		for i := range l {
			wipe(&l[i])
		}
		if !equal(node(api.OCoalesce, again...), want) {
			t.Errorf("%s: two results share memory", name)
		}
		if !reflect.DeepEqual(whole(), before) {
			t.Fatalf("%s: the argument has changed", name)
		}
	}
}

func TestArguments(t *testing.T) {
	e, whole := spread()
	before := slices.Clone(whole())
	cols := []api.Col{{Kind: api.Bool}, {Kind: api.Bool, Null: true}, {Kind: 9}}
	row := []api.Value{yes, null, none}
	to := []int{1, 0, -1}
	scalar.Check(e)
	if c, f := scalar.Kind(e.Args[0], cols[:2]); c != (api.Col{Kind: api.Bool, Null: true}) || f != api.OK {
		t.Errorf("Kind: %v, %v", c, f)
	}
	if v, f := scalar.Eval(e.Args[0], cols[:2], row[:2]); v != yes || f != api.OK {
		t.Errorf("Eval: %v, %v", v, f)
	}
	l, _ := scalar.Columns(e)
	again, _ := scalar.Columns(e)
	clear(l[:cap(l)])
	if !slices.Equal(again, []int{0, 1}) {
		t.Errorf("Columns: %v", again)
	}
	scalar.Move(e, to[:2])
	scalar.Same(e, e)
	if s, f := scalar.String(e); s != "and(or($0, $1), 'a')" || f != api.OK {
		t.Errorf("String: %s, %v", s, f)
	}
	if !reflect.DeepEqual(whole(), before) || !slices.Equal(to, []int{1, 0, -1}) || !slices.Equal(row, []api.Value{yes, null, none}) ||
		!slices.Equal(cols, []api.Col{{Kind: api.Bool}, {Kind: api.Bool, Null: true}, {Kind: 9}}) {
		t.Errorf("an argument has changed")
	}
}

// P3.6

func TestPutAndMoveKeepValues(t *testing.T) {
	cols := sixCols()
	some(t, 3000, func(r *rand.Rand, e api.Expr) {
		row := rowOf(r, cols)
		by := make([]api.Expr, len(cols))
		values := make([]api.Value, len(cols))
		kinds := make([]api.Col, len(cols))
		for i := range by {
			by[i] = grown(r, cols[i].Kind, 1+r.IntN(3))
			values[i], _ = scalar.Eval(by[i], cols, row)
			kinds[i], _ = scalar.Kind(by[i], cols)
		}
		put, f := scalar.Put(e, by)
		if f == api.ErrLarge {
			return
		}
		got, g := scalar.Eval(put, cols, row)
		want, h := scalar.Eval(e, kinds, values)
		if got != want || f != api.OK || g != api.OK || h != api.OK {
			t.Errorf("Put: %v, %v, %v, %v, not %v", got, f, g, h, want)
		}
		to := r.Perm(len(cols))
		turned, turnedCols := make([]api.Value, len(cols)), make([]api.Col, len(cols))
		for i, n := range to {
			turned[n], turnedCols[n] = row[i], cols[i]
		}
		moved, f := scalar.Move(e, to)
		got, g = scalar.Eval(moved, turnedCols, turned)
		want, h = scalar.Eval(e, cols, row)
		if got != want || f != api.OK || g != api.OK || h != api.OK {
			t.Errorf("Move: %v, %v, %v, %v, not %v", got, f, g, h, want)
		}
	})
}

// P3.7

func TestJoinedOfConjuncts(t *testing.T) {
	cols := sixCols()
	some(t, 3000, func(r *rand.Rand, e api.Expr) {
		l, f := scalar.Conjuncts(e)
		joined, g := scalar.Joined(l)
		if f != api.OK || g != api.OK {
			t.Fatalf("%v, %v", f, g)
		}
		row := rowOf(r, cols)
		got, _ := scalar.Eval(joined, cols, row)
		if want, h := scalar.Eval(e, cols, row); got != want || h != api.OK {
			t.Errorf("%v, %v, not %v", got, h, want)
		}
		for _, x := range l {
			if x.Op == api.OAnd {
				t.Errorf("the conjunct %s", shown(x))
			}
		}
	})
}
