package syntax_test

import (
	"math/rand"
	"reflect"
	"strconv"
	"strings"
	"testing"

	"tactician/api"
	"tactician/syntax"
)

// samples are trees that have all there is.
func samples(t *testing.T) []Query {
	var out []Query
	for _, s := range []string{
		"select a, 2 b, * from t, u x where c having 'it''s' order by a, 2 desc limit 3 offset 0",
		"select distinct t.* group by a, b.c", "values (1, true), (false, null) limit 2", "(select 1 limit 1) order by 1",
		"select 1 union all select 2 intersect select 3", "select 1 except select 2 except (select 3 offset 1)", "select 1 intersect all select 2 intersect values (1)",
		"select * from t join u x on a left join v on b cross join (select 1) y full join (values (1)) z on c = d right join w on e",
		"select count(*), sum(distinct a), f(a, b, 1)", "select not - a, (- a - b) * c or d and e = f", "select a is not null, b is null, c is true, d is not true",
		"select a is distinct from b, a is not distinct from (b = c)", "select a in (1), b not in (1, (2, 3)), (a, b) in (select 1 limit 1)", "select a between b and c, a not between 1 and - 2",
		"select exists (select 1), (select 2), not exists ((select 3) limit 0)", "select case when a then b end, case when a or b then 1 when c then 2 else (d, e) end",
	} {
		out = append(out, mustParse(t, s))
	}
	return out
}

// full writes a tree in the simplest way: all that are operands in brackets. It looks at no more than it writes, so that its
// string has another tree, or none, if q is one that no string has.
func full(q Query) string {
	out := fullBody(q.Body)
	for i, k := range q.Keys {
		out += []string{" order by ", ", "}[min(i, 1)] + k.Name
		if k.Name == "" {
			out += strconv.Itoa(k.At)
		}
		out += when(k.Desc, " desc")
	}
	return out + when(q.Limit != -1, " limit "+strconv.Itoa(q.Limit)) + when(q.Offset != -1, " offset "+strconv.Itoa(q.Offset))
}

func when(is bool, s string) string {
	if is {
		return s
	}
	return ""
}

// joined are the strings of elements, with before before them if there are any.
func joined[T any](before string, l []T, of func(T) string) string {
	var out []string
	for _, x := range l {
		out = append(out, of(x))
	}
	return when(len(l) > 0, before) + strings.Join(out, ", ")
}

func fullBody(b Body) string {
	var ins []string
	for _, q := range b.Ins {
		ins = append(ins, full(q))
	}
	switch b.Op {
	case syntax.Select:
		return "select " + when(b.Distinct, "distinct ") + joined("", b.Items, fullItem) + joined(" from ", b.From, fullSource) +
			joined(" where ", b.Where, fullNode) + joined(" group by ", b.Group, fullNode) + joined(" having ", b.Having, fullNode)
	case syntax.Values:
		return joined("values ", b.Rows, func(l []Node) string { return "(" + joined("", l, fullNode) + ")" })
	case syntax.Sub:
		return "(" + strings.Join(ins, "") + ")"
	case syntax.Union:
		return strings.Join(ins, " union "+when(b.All, "all "))
	case syntax.Except:
		return strings.Join(ins, " except "+when(b.All, "all "))
	case syntax.Intersect:
		return strings.Join(ins, " intersect "+when(b.All, "all "))
	}
	return ""
}

func fullItem(x Item) string {
	return when(x.Table != "", x.Table+".") + when(x.Star, "*") + joined("", x.Expr, fullNode) + when(x.As != "", " as "+x.As)
}

func fullSource(s Source) string {
	joins := map[int]string{syntax.Cross: " cross join ", syntax.InnerJoin: " inner join ", syntax.LeftJoin: " left outer join ", syntax.RightJoin: " right outer join ", syntax.FullJoin: " full outer join "}
	var ins []string
	for _, x := range s.Ins {
		ins = append(ins, fullSource(x))
	}
	return s.Name + joined("", s.Query, func(q Query) string { return "(" + full(q) + ")" }) + strings.Join(ins, joins[s.Op]) +
		joined(" on ", s.On, fullNode) + when(s.As != "", " as "+s.As)
}

func fullNode(n Node) string {
	operand := func(i int) string {
		if i < len(n.Args) {
			return "(" + fullNode(n.Args[i]) + ")"
		}
		return ""
	}
	no := when(n.Not, "not ")
	query := joined("", n.Query, func(q Query) string { return "(" + full(q) + ")" })
	switch n.Op {
	case syntax.Num:
		return strconv.FormatInt(n.Number, 10)
	case syntax.Str:
		return "'" + strings.ReplaceAll(n.Text, "'", "''") + "'"
	case syntax.True:
		return "true"
	case syntax.False:
		return "false"
	case syntax.Nothing:
		return "null"
	case syntax.Column, syntax.Of:
		return n.Text
	case syntax.Call:
		return n.Text + "(" + when(n.Distinct, "distinct ") + joined("", n.Args, fullNode) + ")"
	case syntax.CountAll:
		return n.Text + "(*)"
	case syntax.Unary:
		return n.Text + " " + operand(0)
	case syntax.Binary:
		return operand(0) + " " + n.Text + " " + operand(1)
	case syntax.IsNull:
		return operand(0) + " is " + no + "null"
	case syntax.IsTrue:
		return operand(0) + " is " + no + "true"
	case syntax.Differs:
		return operand(0) + " is " + no + "distinct from " + operand(1)
	case syntax.In:
		if len(n.Query) > 0 || len(n.Args) == 0 {
			return operand(0) + " " + no + "in " + query
		}
		return operand(0) + " " + no + "in (" + joined("", n.Args[1:], fullNode) + ")"
	case syntax.Between:
		return operand(0) + " " + no + "between " + operand(1) + " and " + operand(2)
	case syntax.Exists:
		return "exists " + query
	case syntax.Scalar:
		return query
	case syntax.Case:
		out := "case "
		for i, x := range n.Args {
			word := []string{" when ", " then "}[i%2]
			if i%2 == 0 && i == len(n.Args)-1 {
				word = " else "
			}
			out += word + fullNode(x)
		}
		return out + " end"
	case syntax.Tuple:
		return "(" + joined("", n.Args, fullNode) + ")"
	}
	return ""
}

// judged compares what String says of q with what is read from the full string.
func judged(t *testing.T, q Query) bool {
	t.Helper()
	back, e := syntax.Parse(full(q))
	has := e == api.OK && shown(back) == shown(q)
	got, e := syntax.String(q)
	if has && e != api.OK || !has && (e != api.ErrSyntax || got != "") {
		t.Errorf("%s (%s): %q, %v", shown(q), full(q), got, e)
	}
	if has {
		is(t, got, q)
	}
	return has
}

// changes calls try for each small change of what v points into, and undoes it again.
func changes(v reflect.Value, try func()) {
	change := func(to reflect.Value) {
		old := reflect.New(v.Type()).Elem()
		old.Set(v)
		v.Set(to)
		try()
		v.Set(old)
	}
	switch v.Kind() {
	case reflect.Bool:
		change(reflect.ValueOf(!v.Bool()))
	case reflect.Int, reflect.Int64:
		for _, n := range []int64{-1 << 63, -2, -1, 0, 1, 2, 3, 4, 5, 6, 7, 8, 9, 10, 11, 12, 13, 14, 15, 16, 17, 18, 19, 20, 21, api.MaxRows, api.MaxRows + 1, 1<<63 - 1} {
			change(reflect.ValueOf(n).Convert(v.Type()))
		}
	case reflect.String:
		for _, s := range []string{"", "a", "z9_", "a.b", "a.b.c", "A", "not", "-", "and", "*", "=", "in", "1", "it's", "\n", " a", "a b", many("a", api.MaxName+1), many("'", api.MaxText+1)} {
			change(reflect.ValueOf(s))
		}
	case reflect.Struct:
		for i := range v.NumField() {
			changes(v.Field(i), try)
		}
	case reflect.Slice:
		n := v.Len()
		list := func(l ...reflect.Value) reflect.Value {
			return reflect.Append(reflect.MakeSlice(v.Type(), 0, len(l)), l...)
		}
		var l []reflect.Value
		for i := range n {
			l = append(l, v.Index(i))
		}
		zero := reflect.Zero(v.Type().Elem())
		change(list(append(l[:n:n], zero)...))
		change(list(append([]reflect.Value{zero}, l...)...))
		if n > 0 {
			change(list())
			change(list(l[1:]...))
			change(list(l[:n-1]...))
			change(list(append(l[:n:n], l[0])...))
			change(list(append([]reflect.Value{l[n-1]}, l[:n-1]...)...))
		}
		for i := range n {
			changes(v.Index(i), try)
		}
	}
}

// P9.2: String has each small change of a tree right, and Same sees each of them.
func TestChanges(t *testing.T) {
	right, wrong := 0, 0
	for _, q := range samples(t) {
		judged(t, q)
		other := copied(q)
		before := shown(q)
		changes(reflect.ValueOf(&other).Elem(), func() {
			if judged(t, other) {
				right++
			} else {
				wrong++
			}
			same := before == shown(other)
			if syntax.Same(q, other) != same || syntax.Same(other, q) != same || !syntax.Same(other, other) {
				t.Errorf("%s and %s: the same: %v", before, shown(other), !same)
			}
		})
		if !syntax.Same(q, other) || !syntax.Same(q, copied(q)) {
			t.Errorf("%s: not the same", before)
		}
	}
	if right < 1000 || wrong < 5000 {
		t.Errorf("%d right trees, %d wrong ones", right, wrong)
	}
}

// copied is q in new memory.
func copied(q Query) Query {
	return copiedUpTo(q, reflect.Value.Len)
}

// whole is q in new memory, with all that lies behind the ends of its lists.
func whole(q Query) Query {
	return copiedUpTo(q, reflect.Value.Cap)
}

func copiedUpTo(q Query, end func(reflect.Value) int) Query {
	var walk func(v reflect.Value) reflect.Value
	walk = func(v reflect.Value) reflect.Value {
		out := reflect.New(v.Type()).Elem()
		switch v.Kind() {
		case reflect.Slice:
			v = v.Slice(0, end(v))
			for i := range v.Len() {
				out = reflect.Append(out, walk(v.Index(i)))
			}
			return out
		case reflect.Struct:
			for i := range v.NumField() {
				out.Field(i).Set(walk(v.Field(i)))
			}
			return out
		}
		return v
	}
	return walk(reflect.ValueOf(q)).Interface().(Query)
}

// Nil and empty lists are the same, whatever they are in.
func TestSameOfEmptyLists(t *testing.T) {
	empty := func(q Query) Query {
		var walk func(v reflect.Value)
		walk = func(v reflect.Value) {
			switch v.Kind() {
			case reflect.Slice:
				if v.Len() == 0 {
					v.Set(reflect.MakeSlice(v.Type(), 0, 1))
				}
				for i := range v.Len() {
					walk(v.Index(i))
				}
			case reflect.Struct:
				for i := range v.NumField() {
					walk(v.Field(i))
				}
			}
		}
		q = copied(q)
		walk(reflect.ValueOf(&q).Elem())
		return q
	}
	for _, q := range append(samples(t), Query{}) {
		other := empty(q)
		if !syntax.Same(q, other) || !syntax.Same(other, q) || !syntax.Same(other, other) {
			t.Errorf("%s: not the same", shown(q))
		}
		want, e := syntax.String(q)
		if got, f := syntax.String(other); got != want || e != f {
			t.Errorf("%q, %v, not %q, %v", got, f, want, e)
		}
	}
	l := samples(t)
	for i, a := range l {
		for j, b := range l {
			if syntax.Same(a, b) != (i == j) {
				t.Errorf("%s and %s: the same: %v", shown(a), shown(b), i != j)
			}
		}
	}
}

// TestManyChanges has trees that are changed again and again, as long as a string has them.
func TestManyChanges(t *testing.T) {
	r := rand.New(rand.NewSource(9))
	right, wrong := 0, 0
	for _, q := range append(samples(t), samples(t)...) {
		for range 100 {
			found, seen := q, 0
			changes(reflect.ValueOf(&q).Elem(), func() {
				seen++
				if r.Intn(seen) == 0 {
					found = copied(q)
				}
			})
			if judged(t, found) {
				q = found
				right++
			} else {
				wrong++
			}
		}
	}
	if right < 500 || wrong < 500 {
		t.Errorf("%d right trees, %d wrong ones", right, wrong)
	}
}
