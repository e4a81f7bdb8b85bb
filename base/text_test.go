package base_test

import (
	"math/rand/v2"
	"reflect"
	"slices"
	"strconv"
	"strings"
	"testing"

	"tactician/api"
	"tactician/base"
)

// P5.4

func TestString(t *testing.T) {
	cols := []api.Column{{Name: "a", Kind: api.Int}, {Name: "b_2", Kind: api.Text, Null: true}, {Name: "c", Kind: api.Bool}}
	nulls := []api.Column{{Name: "int", Kind: api.Bool, Null: true}, {Name: "text", Kind: api.Int, Null: true}}
	for want, b := range map[string]api.Base{
		"": {},
		"table t (a int, b_2 text null, c bool)\n": {Tables: []api.Table{{Name: "t", Cols: cols}}},
		"table t (a int, b_2 text null, c bool) key (a) key (a, c)\n": {Tables: []api.Table{{
			Name: "t", Cols: cols, Keys: [][]int{{0}, {0, 2}},
		}}},
		"table t (a int, b_2 text null, c bool) index i (c, b_2, a) index j (b_2)\n": {Tables: []api.Table{{
			Name: "t", Cols: cols, Indexes: []api.Index{{Name: "i", Cols: []int{2, 1, 0}}, {Name: "j", Cols: []int{1}}},
		}}},
		"table t (a int, b_2 text null, c bool) key (c) key (a, c)\n" +
			"table key (int bool null, text int null) ref (int) t 0 ref (text, int) t 1 index index (int)\n": {Tables: []api.Table{
			{Name: "t", Cols: cols, Keys: [][]int{{2}, {0, 2}}},
			{
				Name: "key", Cols: nulls,
				Refs:    []api.Ref{{Cols: []int{0}, Table: "t"}, {Cols: []int{1, 0}, Table: "t", Key: 1}},
				Indexes: []api.Index{{Name: "index", Cols: []int{0}}},
			},
		}},
	} {
		if s, e := base.String(b); s != want || e != api.OK {
			t.Errorf("String: %q, %v, not %q", s, e, want)
		}
		if got, e := base.Parse(want); !reflect.DeepEqual(plain(got), plain(b)) || e != api.OK {
			t.Errorf("Parse of %q: %v, %v", want, got, e)
		}
	}
	if s, e := base.String(read(shop)); s != shop || e != api.OK {
		t.Errorf("the shop: %q, %v", s, e)
	}
}

// plain has nil for each empty list of b.
func plain(b api.Base) api.Base {
	if len(b.Tables) == 0 {
		return api.Base{}
	}
	out := api.Base{Tables: slices.Clone(b.Tables)}
	for i, t := range out.Tables {
		if len(t.Keys) == 0 {
			t.Keys = nil
		}
		if len(t.Refs) == 0 {
			t.Refs = nil
		}
		if len(t.Indexes) == 0 {
			t.Indexes = nil
		}
		out.Tables[i] = t
	}
	return out
}

func TestParseOfNone(t *testing.T) {
	for _, s := range []string{
		"\n", " ", "t", "table", "table ", "table t", "table t\n", "table t ", "table t (", "table t ()", "table t (a int",
		"table t (a int)", "table t (a int)\n\n", "\ntable t (a int)\n", " table t (a int)\n", "table t (a int) \n", "table  t (a int)\n",
		"Table t (a int)\n", "tables t (a int)\n", "t (a int)\n", "(a int)\n", "table (a int)\n", "table t(a int)\n", "table t  (a int)\n",
		"table t ( a int)\n", "table t (a int )\n", "table t (a  int)\n", "table t (aint)\n", "table t (a)\n", "table t (int)\n",
		"table t (a int,b int)\n", "table t (a int , b int)\n", "table t (a int,  b int)\n", "table t (a int, )\n", "table t (, a int)\n",
		"table t (a int;b int)\n", "table t (a int b int)\n", "table t (a Int)\n", "table t (a integer)\n", "table t (a null)\n",
		"table t (a null int)\n", "table t (a int nul)\n", "table t (a int null null)\n", "table t (a int not null)\n", "table t (a int  null)\n",
		"table t (a 1)\n", "table t (a int)\r\n", "table t (a int)\ttable u (a int)\n", "table t (a int)table u (a int)\n",
		"table t (a int)key (a)\n", "table t (a int)  key (a)\n", "table t (a int) key(a)\n", "table t (a int) key  (a)\n",
		"table t (a int) key a\n", "table t (a int) key (a\n", "table t (a int) key a)\n", "table t (a int) key (b)\n", "table t (a int) key ()\n",
		"table t (a int) key (a )\n", "table t (a int) key (0)\n", "table t (a int, b int) key (a,b)\n", "table t (a int, b int) key (a, b, )\n",
		"table t (a int) keys (a)\n", "table t (a int) Key (a)\n", "table t (a int) (a)\n", "table t (a int) other (a)\n", "table t (a int) key\n",
		"table t (a int) index (a)\n", "table t (a int) index i\n", "table t (a int) index i(a)\n", "table t (a int) index  i (a)\n",
		"table t (a int) index i  (a)\n", "table t (a int) index i a\n", "table t (a int) index i (a) x\n", "table t (a int) index i j (a)\n",
		"table t (a int) index i (a) key (a)\n", "table t (a int) ref (a) t 0\n", "table t (a int) ref\n", "table t (a int) ref (a)\n",
		"table t (a int)", "table t (a int, a int)\n", "table t (a int, a text) key (a)\n",
	} {
		if b, e := base.Parse(s); e != api.ErrBase || len(b.Tables) != 0 {
			t.Errorf("%q: %v, %v", s, b, e)
		}
	}
	for _, ref := range []string{
		"ref (c) t 00", "ref (c) t 01", "ref (c) t +0", "ref (c) t -0", "ref (c) t -1", "ref (c) t 2", "ref (c) t", "ref (c) t ", "ref (c) t a",
		"ref (c) 0", "ref c t 0", "ref(c) t 0", "ref (c)t 0", "ref (c) t0", "ref (c)  t 0", "ref (c) t  0", "ref (c) t 0 ", "ref (c) t 0,",
		"ref (c) t 18446744073709551616", "ref (c) t 4294967296", "ref (c) t 9223372036854775807", "ref (c) u 0", "ref (c) v 0", "ref (x) t 0",
		"ref () t 0", "ref (c, d) t 0", "ref (c, c) t 1", "ref (c,d) t 1", "index i (c) ref (c) t 0", "ref (c) t 0 key (d)", "ref (c) t 0ref (c) t 0",
		"ref (c) t 0 0", "ref (c) t 0 index i (d) ref (c) t 0", "ref (c) t 0 table v (a int)",
	} {
		s := "table t (a int, b int) key (a) key (a, b)\ntable u (c int, d int) " + ref + "\n"
		if b, e := base.Parse(s); e != api.ErrBase || len(b.Tables) != 0 {
			t.Errorf("%q: %v, %v", s, b, e)
		}
	}
}

// TestParseOfChanged has the strings that differ from one of a base in a byte: what is still one is read as what is written so.
func TestParseOfChanged(t *testing.T) {
	t.Parallel()
	check := func(s string) {
		b, e := base.Parse(s)
		if e == api.ErrBase && len(b.Tables) == 0 {
			return
		}
		if back, f := base.String(b); e != api.OK || f != api.OK || back != s {
			t.Errorf("%q: %v, %q", s, e, back)
		}
	}
	right := 0
	for i := range shop {
		check(shop[:i])
		check(shop[:i] + shop[i+1:])
		for _, c := range " \n(),0a_T" {
			check(shop[:i] + string(c) + shop[i:])
			s := shop[:i] + string(c) + shop[i+1:]
			check(s)
			if b, _ := base.Parse(s); s != shop && len(b.Tables) == 3 {
				right++
			}
		}
	}
	if right == 0 {
		t.Errorf("no changed string was one of a base")
	}
}

// longBase is one whose string has n bytes, from 10000 to 30000.
func longBase(n int) api.Base {
	name := func(c string, i int) string { return c + strings.Repeat("x", api.MaxName-3) + strconv.Itoa(10+i) }
	var b api.Base
	all := of(api.MaxCols, func(i int) int { return i })
	for i := range api.MaxTables {
		cols := of(api.MaxCols, func(j int) api.Column { return api.Column{Name: name("c", j), Kind: api.Text, Null: true} })
		b.Tables = append(b.Tables, api.Table{Name: name("t", i), Cols: cols})
	}
	size := func() int {
		s := 0
		for _, t := range b.Tables {
			s += len("table  ()\n") + len(t.Name) + api.MaxCols*len(", text null") - len(", ")
			for _, c := range t.Cols {
				s += len(c.Name) + 1
			}
			for _, x := range t.Indexes {
				s += len(" index  ()") + len(x.Name) - len(", ")
				for _, c := range x.Cols {
					s += len(", ") + len(t.Cols[c].Name)
				}
			}
		}
		return s
	}
	for i := 0; size() < n; i++ {
		t := &b.Tables[i/api.MaxKeys]
		t.Indexes = append(t.Indexes, api.Index{Name: name("i", i), Cols: slices.Clone(all)})
	}
	for i := 0; size() > n; i++ { // the last two tables have no index
		at := i / (api.MaxName - 3)
		c := &b.Tables[api.MaxTables-1-at/api.MaxCols].Cols[at%api.MaxCols]
		c.Name = strings.Replace(c.Name, "x", "", 1)
	}
	return b
}

func TestLongStrings(t *testing.T) {
	for _, n := range []int{10000, api.MaxString - 1, api.MaxString} {
		b := longBase(n)
		s, e := base.String(b)
		if len(s) != n || e != api.OK {
			t.Fatalf("%d: %d, %v", n, len(s), e)
		}
		if got, e := base.Parse(s); e != api.OK || !reflect.DeepEqual(plain(got), plain(b)) {
			t.Errorf("%d read back: %v", n, e)
		}
	}
	for _, n := range []int{api.MaxString + 1, 30000} {
		b := longBase(n)
		if e := base.Check(b); e != api.OK {
			t.Fatalf("%d: %v", n, e)
		}
		if s, e := base.String(b); s != "" || e != api.ErrLarge {
			t.Errorf("%d: %d, %v", n, len(s), e)
		}
	}
	for s, want := range map[string]api.Errno{
		strings.Repeat("\n", api.MaxString):                                 api.ErrBase,
		strings.Repeat("\n", api.MaxString+1):                               api.ErrLarge,
		strings.Repeat(" ", api.MaxString):                                  api.ErrBase,
		strings.Repeat("(", api.MaxString):                                  api.ErrBase,
		"table t (" + strings.Repeat(", ", api.MaxString/2-5):               api.ErrBase,
		"table t (a int)" + strings.Repeat(" key (a)", api.MaxString/8-2):   api.ErrBase,
		"table t (a int)\n" + strings.Repeat("a", api.MaxString):            api.ErrLarge,
		strings.Repeat("table t (a int)\n", api.MaxString/16):               api.ErrBase,
		strings.Repeat(shop, api.MaxString/len(shop)+1)[:api.MaxString]:     api.ErrBase,
		strings.Repeat(shop, api.MaxString/len(shop)+1)[:api.MaxString+1]:   api.ErrLarge,
		"table t (a int) ref (a) t " + strings.Repeat("1", api.MaxString/2): api.ErrBase,
	} {
		if b, e := base.Parse(s); e != want || len(b.Tables) != 0 {
			t.Errorf("%.30q .. (%d): %d, %v", s, len(s), len(b.Tables), e)
		}
	}
}

// P5.7

// randomBase is a base whose names are often words of its string.
func randomBase(r *rand.Rand) api.Base {
	pool := []string{"table", "key", "ref", "index", "int", "bool", "text", "a", "b", "c1", "d_", "nul", "e", "f", "g", "h"}
	var b api.Base
	names := r.Perm(len(pool))
	for i := range r.IntN(5) {
		t := api.Table{Name: pool[names[i]]}
		colNames := r.Perm(len(pool))
		for j := range 1 + r.IntN(5) {
			t.Cols = append(t.Cols, api.Column{Name: pool[colNames[j]], Kind: api.Kind(1 + r.IntN(3)), Null: r.IntN(3) == 0})
		}
		for range r.IntN(5) {
			t.Keys = append(t.Keys, r.Perm(len(t.Cols))[:1+r.IntN(len(t.Cols))])
			slices.Sort(t.Keys[len(t.Keys)-1])
			if base.Check(api.Base{Tables: []api.Table{t}}) != api.OK {
				t.Keys = t.Keys[:len(t.Keys)-1]
			}
		}
		for range r.IntN(40) {
			t.Refs = append(t.Refs, api.Ref{Cols: r.Perm(len(t.Cols))[:1+r.IntN(len(t.Cols))], Table: pool[names[r.IntN(i+1)]], Key: r.IntN(2)})
			if base.Check(api.Base{Tables: append(slices.Clone(b.Tables), t)}) != api.OK {
				t.Refs = t.Refs[:len(t.Refs)-1]
			}
		}
		for range r.IntN(3) {
			t.Indexes = append(t.Indexes, api.Index{Name: pool[r.IntN(len(pool))], Cols: r.Perm(len(t.Cols))[:1+r.IntN(len(t.Cols))]})
			if base.Check(api.Base{Tables: append(slices.Clone(b.Tables), t)}) != api.OK {
				t.Indexes = t.Indexes[:len(t.Indexes)-1]
			}
		}
		b.Tables = append(b.Tables, t)
	}
	return b
}

func TestThereAndBack(t *testing.T) {
	t.Parallel()
	r := rand.New(rand.NewPCG(5, 7))
	refs := 0
	for range 5000 {
		b := randomBase(r)
		s, e := base.String(b)
		if e != api.OK {
			t.Fatalf("%v: %v", b, e)
		}
		got, e := base.Parse(s)
		if e != api.OK || !reflect.DeepEqual(plain(got), plain(b)) {
			t.Fatalf("%q: %v, %v", s, got, e)
		}
		for _, table := range b.Tables {
			refs += len(table.Refs)
		}
	}
	if refs < 1000 {
		t.Errorf("only %d references", refs)
	}
}
