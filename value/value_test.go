package value_test

import (
	"math"
	"slices"
	"strings"
	"testing"

	"tactician/api"
	"tactician/value"
)

var (
	null  = api.Value{}
	yes   = api.Value{Kind: api.Bool, Int: 1}
	no    = api.Value{Kind: api.Bool}
	one   = number(1)
	wrong = api.Value{Kind: api.Bool, Int: 2}
)

func number(n int64) api.Value { return api.Value{Kind: api.Int, Int: n} }

func text(s string) api.Value { return api.Value{Kind: api.Text, Text: s} }

// rising are different values, in the order of values.
func rising() []api.Value {
	return []api.Value{
		null,
		number(math.MinInt64), number(-10), number(-9), number(-1), number(0), one, number(9), number(10), number(math.MaxInt64),
		no, yes,
		text(""), text(" "), text("  "), text("'"), text("''"), text("-1"), text("1"), text("10"), text("2"), text("A"), text("B"),
		text("a"), text("a "), text("aB"), text("aa"), text("ab"), text("b"), text("null"), text("true"), text("~"),
		text(strings.Repeat("~", api.MaxText)),
	}
}

// nones are data that are no values.
func nones() []api.Value {
	out := []api.Value{
		{Kind: -1}, {Kind: 4}, {Kind: 9}, {Kind: math.MinInt}, {Kind: math.MaxInt},
		{Int: 1}, {Int: -1}, {Text: "a"},
		{Kind: api.Int, Text: "1"}, {Kind: api.Int, Int: 1, Text: "1"},
		wrong, {Kind: api.Bool, Int: -1}, {Kind: api.Bool, Int: 1, Text: "true"}, {Kind: api.Bool, Text: "a"},
		{Kind: api.Text, Int: 1}, {Kind: api.Text, Int: 1, Text: "a"},
		text(strings.Repeat("a", api.MaxText+1)), text(strings.Repeat("a", 1<<20)),
	}
	for b := range 256 {
		if b < 32 || b > 126 {
			out = append(out, text(string([]byte{byte(b)})), text(string([]byte{'a', byte(b), 'b'})))
		}
	}
	return out
}

// tooLong is a list that is too large and has an element that is no value.
func tooLong() []api.Value {
	l := make([]api.Value, api.MaxRows+1)
	l[0] = wrong
	return l
}

func sign(n int) int {
	return max(-1, min(1, n))
}

// lists calls each for all lists of at most most of the values of, in all orders, with repetitions.
func lists(of []api.Value, most int, each func(l []api.Value)) {
	var grow func(l []api.Value)
	grow = func(l []api.Value) {
		each(slices.Clone(l))
		if len(l) == most {
			return
		}
		for _, v := range of {
			grow(append(slices.Clone(l), v))
		}
	}
	grow(nil)
}

// P1.1

func TestCheck(t *testing.T) {
	for _, v := range rising() {
		if e := value.Check(v); e != api.OK {
			t.Errorf("%v: %v, not OK", v, e)
		}
	}
	for b := byte(32); b <= 126; b++ {
		if e := value.Check(text(string([]byte{b}))); e != api.OK {
			t.Errorf("the byte %d: %v, not OK", b, e)
		}
	}
	for _, v := range nones() {
		if e := value.Check(v); e != api.ErrValue {
			t.Errorf("%.50v: %v, not ErrValue", v, e)
		}
	}
}

func TestCompare(t *testing.T) {
	l := rising()
	for i, a := range l {
		for j, b := range l {
			if c, e := value.Compare(a, b); c != sign(i-j) || e != api.OK {
				t.Errorf("%v and %v: %d, %v, not %d", a, b, c, e, sign(i-j))
			}
		}
	}
	for _, x := range nones() {
		for _, v := range []api.Value{null, one, x} {
			if c, e := value.Compare(v, x); c != 0 || e != api.ErrValue {
				t.Errorf("%.50v and %.50v: %d, %v, not ErrValue", v, x, c, e)
			}
			if c, e := value.Compare(x, v); c != 0 || e != api.ErrValue {
				t.Errorf("%.50v and %.50v: %d, %v, not ErrValue", x, v, c, e)
			}
		}
	}
}

func TestCompareExamples(t *testing.T) {
	if c, e := value.Compare(null, number(-5)); c != -1 || e != api.OK {
		t.Errorf("null and -5: %d, %v, not -1", c, e)
	}
	if c, e := value.Compare(yes, text("a")); c != -1 || e != api.OK {
		t.Errorf("true and 'a': %d, %v, not -1", c, e)
	}
}

// P1.2

// written has values and their strings.
func written() map[string]api.Value {
	return map[string]api.Value{
		"null":                 null,
		"true":                 yes,
		"false":                no,
		"0":                    number(0),
		"7":                    number(7),
		"-7":                   number(-7),
		"100":                  number(100),
		"9223372036854775807":  number(math.MaxInt64),
		"-9223372036854775808": number(math.MinInt64),
		"''":                   text(""),
		"' '":                  text(" "),
		"'a b'":                text("a b"),
		"'it''s'":              text("it's"),
		"''''":                 text("'"),
		"''''''":               text("''"),
		"'''a'":                text("'a"),
		"'a'''":                text("a'"),
		"'null'":               text("null"),
		"'007'":                text("007"),
		`'\n"~'`:               text(`\n"~`),
		"'" + strings.Repeat("a", api.MaxText) + "'":     text(strings.Repeat("a", api.MaxText)),
		"'" + strings.Repeat("'", 2*api.MaxText) + "'":   text(strings.Repeat("'", api.MaxText)),
		"'" + strings.Repeat("a''", api.MaxText/2) + "'": text(strings.Repeat("a'", api.MaxText/2)),
	}
}

func TestString(t *testing.T) {
	for want, v := range written() {
		if s, e := value.String(v); s != want || e != api.OK {
			t.Errorf("%v: %q, %v, not %q", v, s, e, want)
		}
	}
	for _, v := range nones() {
		if s, e := value.String(v); s != "" || e != api.ErrValue {
			t.Errorf("%.50v: %q, %v, not ErrValue", v, s, e)
		}
	}
}

func TestParse(t *testing.T) {
	for s, want := range written() {
		if v, e := value.Parse(s); v != want || e != api.OK {
			t.Errorf("%q: %v, %v, not %v", s, v, e, want)
		}
	}
}

func TestParseNone(t *testing.T) {
	for _, s := range []string{
		"", " ", "007", "00", "-0", "-007", "+1", "--1", "-", "+", "1 ", " 1", "1.0", "1e3", "0x1", "1_000", "1a",
		"9223372036854775808", "-9223372036854775809", "99999999999999999999999999",
		"nul", "nulll", "NULL", "Null", "null ", " null", "True", "TRUE", "truefalse", "true ", "False", "nil", "a",
		"'", "'''", "'''''", "'a", "a'", "'a''", "''a'", "'a'b'", "'a' ", " 'a'", "'a''b", `"a"`,
		"'\t'", "'\n'", "'\x00'", "'\x1f'", "'\x7f'", "'\x80'", "'\xff'", "'ä'",
		"'" + strings.Repeat("a", api.MaxText+1) + "'",
		"'" + strings.Repeat("'", 2*api.MaxText+2) + "'",
		"'" + strings.Repeat("'", 2*api.MaxText+1) + "'",
		strings.Repeat("1", api.MaxString),
		"'" + strings.Repeat("a", api.MaxString-2) + "'",
	} {
		if v, e := value.Parse(s); v != null || e != api.ErrValue {
			t.Errorf("%.50q: %v, %v, not ErrValue", s, v, e)
		}
	}
	for _, s := range []string{
		strings.Repeat("1", api.MaxString+1),
		strings.Repeat("0", 1<<20),
		"'" + strings.Repeat("a", api.MaxString-1) + "'",
		strings.Repeat("\x00", api.MaxString+1),
	} {
		if v, e := value.Parse(s); v != null || e != api.ErrLarge {
			t.Errorf("%d bytes: %v, %v, not ErrLarge", len(s), v, e)
		}
	}
}

// P1.3

func TestSortedAndDistinct(t *testing.T) {
	for _, c := range []struct{ l, sorted, distinct []api.Value }{
		{nil, nil, nil},
		{[]api.Value{}, nil, nil},
		{[]api.Value{null}, []api.Value{null}, []api.Value{null}},
		{[]api.Value{yes, yes, yes}, []api.Value{yes, yes, yes}, []api.Value{yes}},
		{
			[]api.Value{one, text("a"), null, number(-1), one, yes, null, text("'"), no, text("")},
			[]api.Value{null, null, number(-1), one, one, no, yes, text(""), text("'"), text("a")},
			[]api.Value{null, number(-1), one, no, yes, text(""), text("'"), text("a")},
		},
	} {
		if l, e := value.Sorted(c.l); !slices.Equal(l, c.sorted) || e != api.OK {
			t.Errorf("Sorted of %v: %v, %v, not %v", c.l, l, e, c.sorted)
		}
		if l, e := value.Distinct(c.l); !slices.Equal(l, c.distinct) || e != api.OK {
			t.Errorf("Distinct of %v: %v, %v, not %v", c.l, l, e, c.distinct)
		}
	}
}

func TestSortedAndDistinctOfAllOrders(t *testing.T) {
	lists([]api.Value{null, one, no, text("a")}, 5, func(l []api.Value) {
		sorted, e := value.Sorted(l)
		distinct, f := value.Distinct(l)
		if e != api.OK || f != api.OK {
			t.Fatalf("%v: %v, %v", l, e, f)
		}
		var all, each []api.Value
		for _, v := range []api.Value{null, one, no, text("a")} {
			for i, x := range l {
				if x == v {
					all = append(all, v)
				}
				if x == v && !slices.Contains(l[:i], v) {
					each = append(each, v)
				}
			}
		}
		if !slices.Equal(sorted, all) || !slices.Equal(distinct, each) {
			t.Fatalf("%v: %v, %v, not %v, %v", l, sorted, distinct, all, each)
		}
	})
}

func TestLongLists(t *testing.T) {
	l := make([]api.Value, api.MaxRows)
	for i := range l {
		l[i] = number(int64(-i / 2))
	}
	sorted, e := value.Sorted(l)
	if e != api.OK || len(sorted) != api.MaxRows {
		t.Fatalf("Sorted: %v, %d values", e, len(sorted))
	}
	for i, v := range sorted {
		if v != l[api.MaxRows-1-i] {
			t.Fatalf("Sorted: %v at %d", v, i)
		}
	}
	distinct, e := value.Distinct(l)
	if e != api.OK || len(distinct) != api.MaxRows/2 {
		t.Fatalf("Distinct: %v, %d values", e, len(distinct))
	}
	for i, v := range distinct {
		if v.Int != int64(i-api.MaxRows/2+1) {
			t.Fatalf("Distinct: %v at %d", v, i)
		}
	}
	for i := range l {
		l[i] = yes
	}
	if v, e := value.And(l); v != yes || e != api.OK {
		t.Errorf("And: %v, %v, not true", v, e)
	}
	if v, e := value.Or(l); v != yes || e != api.OK {
		t.Errorf("Or: %v, %v, not true", v, e)
	}
}

func TestListErrors(t *testing.T) {
	for name, call := range map[string]func([]api.Value) ([]api.Value, api.Errno){"Sorted": value.Sorted, "Distinct": value.Distinct} {
		if l, e := call(tooLong()); len(l) != 0 || e != api.ErrLarge {
			t.Errorf("%s of too many: %d values, %v, not ErrLarge", name, len(l), e)
		}
		for _, x := range nones() {
			for _, in := range [][]api.Value{{x}, {x, one}, {one, null, x}} {
				if l, e := call(in); len(l) != 0 || e != api.ErrValue {
					t.Errorf("%s of %.50v: %v, %v, not ErrValue", name, in, l, e)
				}
			}
		}
	}
}

// R4: arguments are neither changed nor kept, results are new memory.
func TestMemory(t *testing.T) {
	calls := map[string]func([]api.Value) ([]api.Value, api.Errno){"Sorted": value.Sorted, "Distinct": value.Distinct}
	for name, call := range calls {
		for _, l := range [][]api.Value{{one, null, one, no}, {null, one, no, yes}} {
			whole := append(slices.Clone(l), text("beyond"), wrong)
			before := slices.Clone(whole)
			a, _ := call(whole[:len(l)])
			b, _ := call(whole[:len(l)])
			if !slices.Equal(whole, before) {
				t.Errorf("%s has changed %v to %v", name, before, whole)
			}
			want := slices.Clone(b)
			clear(a[:cap(a)])
			if !slices.Equal(whole, before) || !slices.Equal(b, want) {
				t.Errorf("%s: the result shares memory", name)
			}
		}
	}
	l := []api.Value{yes, null, no}
	value.And(l)
	value.Or(l)
	if !slices.Equal(l, []api.Value{yes, null, no}) {
		t.Errorf("And or Or has changed the list to %v", l)
	}
}

// P1.4

func TestAndOr(t *testing.T) {
	lists([]api.Value{yes, no, null}, 5, func(l []api.Value) {
		and, or := yes, no
		if slices.Contains(l, null) {
			and, or = null, null
		}
		if slices.Contains(l, no) {
			and = no
		}
		if slices.Contains(l, yes) {
			or = yes
		}
		if v, e := value.And(l); v != and || e != api.OK {
			t.Errorf("And of %v: %v, %v, not %v", l, v, e, and)
		}
		if v, e := value.Or(l); v != or || e != api.OK {
			t.Errorf("Or of %v: %v, %v, not %v", l, v, e, or)
		}
	})
}

func TestAndOrExamples(t *testing.T) {
	for _, c := range []struct{ l, and, or string }{
		{"", "true", "false"},
		{"true null", "null", "true"},
		{"false null", "false", "null"},
		{"null null", "null", "null"},
	} {
		var l []api.Value
		for _, s := range strings.Fields(c.l) {
			v, _ := value.Parse(s)
			l = append(l, v)
		}
		and, e := value.And(l)
		or, f := value.Or(l)
		a, _ := value.String(and)
		o, _ := value.String(or)
		if a != c.and || o != c.or || e != api.OK || f != api.OK {
			t.Errorf("%s: %s, %s, %v, %v", c.l, a, o, e, f)
		}
	}
}

func TestNot(t *testing.T) {
	for in, want := range map[api.Value]api.Value{yes: no, no: yes, null: null} {
		if v, e := value.Not(in); v != want || e != api.OK {
			t.Errorf("%v: %v, %v, not %v", in, v, e, want)
		}
	}
	for _, x := range rising() {
		if x.Kind != api.Int && x.Kind != api.Text {
			continue
		}
		if v, e := value.Not(x); v != null || e != api.ErrArg {
			t.Errorf("%v: %v, %v, not ErrArg", x, v, e)
		}
	}
	for _, x := range nones() {
		if v, e := value.Not(x); v != null || e != api.ErrValue {
			t.Errorf("%.50v: %v, %v, not ErrValue", x, v, e)
		}
	}
}

func TestTruthErrors(t *testing.T) {
	for name, call := range map[string]func([]api.Value) (api.Value, api.Errno){"And": value.And, "Or": value.Or} {
		long := tooLong()
		long[1] = one
		if v, e := call(long); v != null || e != api.ErrLarge {
			t.Errorf("%s of too many: %v, %v, not ErrLarge", name, v, e)
		}
		for _, x := range nones() {
			for _, l := range [][]api.Value{{x}, {no, yes, x}, {one, x}, {x, text("a")}} {
				if v, e := call(l); v != null || e != api.ErrValue {
					t.Errorf("%s of %.50v: %v, %v, not ErrValue", name, l, v, e)
				}
			}
		}
		for _, x := range []api.Value{one, number(0), text(""), text("true")} {
			for _, l := range [][]api.Value{{x}, {no, yes, x}, {x, no, yes}, {yes, x}, {null, x}} {
				if v, e := call(l); v != null || e != api.ErrArg {
					t.Errorf("%s of %v: %v, %v, not ErrArg", name, l, v, e)
				}
			}
		}
	}
}

// P1.5

func TestTotalOrder(t *testing.T) {
	of := func(a, b api.Value) int {
		c, e := value.Compare(a, b)
		if e != api.OK {
			t.Fatalf("%v and %v: %v", a, b, e)
		}
		return c
	}
	l := rising()
	for _, a := range l {
		for _, b := range l {
			if of(a, b) != -of(b, a) || (of(a, b) == 0) != (a == b) {
				t.Errorf("%v and %v: %d, turned round %d", a, b, of(a, b), of(b, a))
			}
			for _, c := range l {
				if of(a, b) <= 0 && of(b, c) <= 0 && of(a, c) > 0 {
					t.Errorf("%v, %v, %v: the order does not lead on", a, b, c)
				}
			}
		}
	}
}

// P1.6

func TestThereAndBack(t *testing.T) {
	for _, v := range rising() {
		s, _ := value.String(v)
		if back, e := value.Parse(s); back != v || e != api.OK {
			t.Errorf("%v: %q, %v, %v", v, s, back, e)
		}
	}
	for n := int64(-1100); n <= 1100; n++ {
		s, _ := value.String(number(n))
		if back, e := value.Parse(s); back != number(n) || e != api.OK {
			t.Errorf("%d: %q, %v, %v", n, s, back, e)
		}
	}
}

// All short strings of bytes that values are written with: those that Parse takes are written again as they were.
func TestBackAndThere(t *testing.T) {
	right := 0
	var below func(s string)
	below = func(s string) {
		v, e := value.Parse(s)
		if e == api.OK {
			right++
			if back, e := value.String(v); back != s || e != api.OK {
				t.Errorf("%q: %v, %q, %v", s, v, back, e)
			}
		} else if e != api.ErrValue || v != null {
			t.Errorf("%q: %v, %v", s, v, e)
		}
		if len(s) < 6 {
			for _, b := range "'a01-" {
				below(s + string(b))
			}
		}
	}
	below("")
	// Numbers: 0; a 1 and up to five digits 0 or 1 behind it; with a -, up to four. Texts: what is between the quotes
	// has up to four bytes, and a quote takes two; of so many bytes there are 1, 4, 17, 72, 305.
	if want := 1 + 63 + 31 + 1 + 4 + 17 + 72 + 305; right != want {
		t.Errorf("%d strings are taken, not %d", right, want)
	}
}

// P1.7

func TestDeMorgan(t *testing.T) {
	lists([]api.Value{yes, no, null}, 5, func(l []api.Value) {
		and, _ := value.And(l)
		or, _ := value.Or(l)
		var turned []api.Value
		for _, v := range l {
			n, _ := value.Not(v)
			turned = append(turned, n)
		}
		a, e := value.And(turned)
		o, f := value.Or(turned)
		notAnd, g := value.Not(and)
		notOr, h := value.Not(or)
		if o != notAnd || a != notOr || e != api.OK || f != api.OK || g != api.OK || h != api.OK {
			t.Errorf("%v: %v and %v, %v and %v", l, notAnd, o, notOr, a)
		}
		sorted, _ := value.Sorted(l)
		distinct, _ := value.Distinct(l)
		for _, m := range [][]api.Value{sorted, distinct, append(slices.Clone(l), l...)} {
			a, _ := value.And(m)
			o, _ := value.Or(m)
			if a != and || o != or {
				t.Errorf("%v: %v, %v; %v: %v, %v", l, and, or, m, a, o)
			}
		}
	})
}
