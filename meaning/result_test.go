package meaning_test

import (
	"fmt"
	"math"
	"slices"
	"strings"
	"testing"

	"tactician/api"
	"tactician/meaning"
)

// check compares the result of the relation r with rows, written with ; between them.
func check(t *testing.T, r, want string) {
	t.Helper()
	l, e := meaning.Result(shopBase(), shopData(), read(r))
	if got := written(l); got != want || e != api.OK {
		t.Errorf("%s: %s, %v, not %s", r, got, e, want)
	}
}

// TestResult: P7.1
func TestResult(t *testing.T) {
	for _, c := range []struct{ rel, want string }{
		{"scan(t)", "1, null; 2, 5; 3, 2; 4, 5"},
		{"scan(u)", "'x', false; 'x', true; 'x', true; 'y', null"},
		{"scan(n)", "null; null; 2; 2; 5"},
		{"values(int; )", "none"},
		{"values(text bool?; ('b', null) ('a', true) ('b', false) ('b', null))", "'a', true; 'b', null; 'b', null; 'b', false"},

		{"filter(true, scan(t))", "1, null; 2, 5; 3, 2; 4, 5"},
		{"filter(false, scan(t))", "none"},
		{"filter(null:bool, scan(t))", "none"},
		{"filter(gt($1, 3), scan(t))", "2, 5; 4, 5"},
		{"filter(not(gt($1, 3)), scan(t))", "3, 2"},
		{"filter(not(istrue(gt($1, 3))), scan(t))", "1, null; 3, 2"},
		{"filter($1, scan(u))", "'x', true; 'x', true"},
		{"filter(true, filter(eq($0, 2), filter(eq($1, 5), scan(t))))", "2, 5"},

		{"map($1, scan(t))", "null; 2; 5; 5"},
		{"map($1, $0, $1, scan(t))", "null, 1, null; 2, 3, 2; 5, 2, 5; 5, 4, 5"},
		{"map(true, scan(n))", "true; true; true; true; true"},
		{"map(null:text, 'x', scan(n))", "null, 'x'; null, 'x'; null, 'x'; null, 'x'; null, 'x'"},
		{"map(add($0, mul($1, 10)), concat('a', 'b'), scan(t))", "null, 'ab'; 23, 'ab'; 52, 'ab'; 54, 'ab'"},
		{"map(case(isnull($0), -1, $0), filter(false, scan(n)))", "none"},

		{"union(scan(n), scan(n))", "null; null; null; null; 2; 2; 2; 2; 5; 5"},
		{"union(map($0, scan(t)), scan(n), values(int; (7)), filter(false, scan(n)))", "null; null; 1; 2; 2; 2; 3; 4; 5; 7"},
		{"both(scan(n), scan(n))", "null; 2; 5"},
		{"both(all, scan(n), scan(n))", "null; null; 2; 2; 5"},
		{"both(all, scan(n), values(int?; (2) (null) (2) (2) (null) (9)))", "null; null; 2; 2"},
		{"both(all, values(int?; (2) (9)), scan(n))", "2"},
		{"both(scan(n), values(int?; (2) (null) (2) (9)))", "null; 2"},
		{"both(scan(n), filter(false, scan(n)))", "none"},
		{"minus(scan(n), map($0, scan(t)))", "null; 5"},
		{"minus(all, scan(n), map($0, scan(t)))", "null; null; 2; 5"},
		{"minus(all, scan(n), values(int?; (null) (2) (2) (2)))", "null; 5"},
		{"minus(scan(n), values(int?; (null)))", "2; 5"},
		{"minus(scan(n), scan(n))", "none"},
		{"minus(values(int; (1) (1)), filter(false, scan(n)))", "1"},
		{"minus(all, values(int; (1) (1)), filter(false, scan(n)))", "1; 1"},

		{"sort([1-], 0, -1, scan(t))", "2, 5; 4, 5; 3, 2; 1, null"},
		{"sort([1- 0-], 0, -1, scan(t))", "4, 5; 2, 5; 3, 2; 1, null"},
		{"sort([1 0-], 0, -1, scan(t))", "1, null; 3, 2; 4, 5; 2, 5"},
		{"sort([], 0, -1, scan(u))", "'x', false; 'x', true; 'x', true; 'y', null"},
		{"sort([0-], 0, -1, scan(u))", "'y', null; 'x', false; 'x', true; 'x', true"},
		{"sort([0-], 0, -1, scan(n))", "5; 2; 2; null; null"},
		{"sort([0], 1, 1, scan(t))", "2, 5"},
		{"sort([0], 1, 2, scan(t))", "2, 5; 3, 2"},
		{"sort([0], 3, -1, scan(t))", "4, 5"},
		{"sort([0], 3, 9, scan(t))", "4, 5"},
		{"sort([0], 4, -1, scan(t))", "none"},
		{"sort([0], 20000, 20000, scan(t))", "none"},
		{"sort([0], 0, 0, scan(t))", "none"},
		{"sort([0-], 0, 2, scan(n))", "5; 2"},
		{"sort([], 0, 3, scan(n))", "null; null; 2"},
		{"sort([0-], 0, 3, sort([0], 0, 3, scan(t)))", "3, 2; 2, 5; 1, null"},
		{"filter(true, sort([0-], 0, 2, scan(t)))", "3, 2; 4, 5"},
		{"map($0, sort([1- 0-], 0, 1, scan(t)))", "4"},
		{"sort([1-], 1, 1, filter(false, scan(t)))", "none"},
	} {
		check(t, c.rel, c.want)
	}
}

// TestJoins: P7.1
func TestJoins(t *testing.T) {
	for _, c := range []struct{ rel, want string }{
		{"join(inner, eq($1, $2), scan(t), scan(n))", "2, 5, 5; 3, 2, 2; 3, 2, 2; 4, 5, 5"},
		{"join(left, eq($1, $2), scan(t), scan(n))", "1, null, null; 2, 5, 5; 3, 2, 2; 3, 2, 2; 4, 5, 5"},
		{"join(full, eq($0, $2), scan(t), scan(n))", "null, null, null; null, null, null; null, null, 5; 1, null, null; 2, 5, 2; 2, 5, 2; 3, 2, null; 4, 5, null"},
		{"join(semi, eq($1, $2), scan(t), scan(n))", "2, 5; 3, 2; 4, 5"},
		{"join(anti, eq($1, $2), scan(t), scan(n))", "1, null"},
		{"join(semi, same($0, $1), scan(n), scan(t))", "2; 2"},
		{"join(semi, same($0, $2), scan(n), scan(t))", "null; null; 2; 2; 5"},
		{"join(anti, eq($0, $1), scan(n), scan(t))", "null; null; 5"},
		{"join(inner, true, values(int; (1) (2)), values(text; ('a') ('b')))", "1, 'a'; 1, 'b'; 2, 'a'; 2, 'b'"},
		{"join(inner, false, scan(t), scan(n))", "none"},
		{"join(left, null:bool, values(int; (1)), scan(t))", "1, null, null"},
		{"join(full, false, values(int; (1)), values(text bool; ('a', true)))", "null, 'a', true; 1, null, null"},
		{"join(left, true, values(int; (1)), values(text bool; ))", "1, null, null"},
		{"join(full, true, values(int; (1)), values(text bool; ))", "1, null, null"},
		{"join(full, true, values(text bool; ), values(int; (1)))", "null, null, 1"},
		{"join(left, true, values(text bool; ), values(int; (1)))", "none"},
		{"join(anti, true, values(int; (1) (1)), values(text; ))", "1; 1"},
		{"join(semi, true, values(int; (1) (1)), values(text; ('a') ('b')))", "1; 1"},
		{"join(semi, true, values(int; ), values(text; ('a')))", "none"},
		{"join(full, eq($0, $1), values(int; (1) (1)), values(int; (1) (1) (2)))", "null, 2; 1, 1; 1, 1; 1, 1; 1, 1"},
		{"join(inner, lt($0, $2), scan(t), values(int; (3)))", "1, null, 3; 2, 5, 3"},

		{"apply(1, inner, scan(t), filter(eq($0, ^1.1), scan(n)))", "2, 5, 5; 3, 2, 2; 3, 2, 2; 4, 5, 5"},
		{"apply(1, left, scan(t), filter(eq($0, ^1.1), scan(n)))", "1, null, null; 2, 5, 5; 3, 2, 2; 3, 2, 2; 4, 5, 5"},
		{"apply(1, semi, scan(t), filter(eq($0, ^1.1), scan(n)))", "2, 5; 3, 2; 4, 5"},
		{"apply(1, anti, scan(t), filter(eq($0, ^1.1), scan(n)))", "1, null"},
		{"apply(1, inner, scan(n), values(text; ('a') ('b')))", "null, 'a'; null, 'a'; null, 'b'; null, 'b'; 2, 'a'; 2, 'a'; 2, 'b'; 2, 'b'; 5, 'a'; 5, 'b'"},
		{"apply(1, left, values(int; (1)), values(text bool; ))", "1, null, null"},
		{"apply(1, left, values(int; ), values(text bool; ('a', true)))", "none"},
		{"apply(1, inner, scan(t), sort([0-], 0, 1, filter(lt($0, ^1.0), map($0, scan(t)))))", "2, 5, 1; 3, 2, 2; 4, 5, 3"},
		{"apply(1, left, scan(t), group([], count, sum($0), filter(gt($0, ^1.0), scan(n))))", "1, null, 3, 9; 2, 5, 1, 5; 3, 2, 1, 5; 4, 5, 1, 5"},
		{"apply(1, inner, map($0, scan(t)), map(mul(^1.0, ^1.0), ^1.0, values(int; (0))))", "1, 1, 1; 2, 4, 2; 3, 9, 3; 4, 16, 4"},

		// The innermost outer row of a number counts.
		{"apply(1, inner, values(int; (1)), apply(1, inner, values(int; (2)), map(^1.0, values(int; (3)))))", "1, 2, 2"},
		{"apply(1, inner, values(int; (1)), apply(2, inner, values(int; (2)), map(^1.0, ^2.0, values(int; (3)))))", "1, 2, 1, 2"},
		{"apply(2, inner, values(int; (1)), apply(1, inner, map(add(^2.0, 1), values(int; (2))), map(^1.0, ^2.0, values(int; (3)))))", "1, 2, 2, 1"},
		{"apply(1, inner, values(int; (1)), apply(1, inner, map(^1.0, values(int; (2))), map(^1.0, values(int; (3)))))", "1, 1, 1"},
		{"apply(1, inner, values(int; (1)), map(^1.0, one(1, map(^1.0, values(int; (3)))), values(int; (2))))", "1, 1, 2"},
		{"apply(1, inner, values(int; (1)), map(one(2, map(add(^1.0, ^2.0), values(int; (3)))), values(int; (2))))", "1, 3"},
		{"apply(3, inner, values(int; (1)), join(inner, eq(add($0, ^3.0), $1), values(int; (2) (4)), values(int; (3) (4) (5))))", "1, 2, 3; 1, 4, 5"},
	} {
		check(t, c.rel, c.want)
	}
}

// TestGroups: P7.1
func TestGroups(t *testing.T) {
	for _, c := range []struct{ rel, want string }{
		{"group([], count, sum($1), min($1), max($1), some($1), only($0), scan(t))", "4, 12, 2, 5, 3, null"},
		{"group([], sum(distinct $1), some(distinct $1), scan(t))", "7, 2"},
		{"group([], count, sum($1), min($1), max($1), some($1), only($0), sum(distinct $1), some(distinct $1), filter(false, scan(t)))",
			"0, null, null, null, 0, null, null, 0"},
		{"group([], count, sum($0), min($0), max($0), some($0), only($0), filter(isnull($0), scan(n)))", "2, null, null, null, 0, null"},
		{"group([0], filter(false, scan(t)))", "none"},
		{"group([0], count, filter(false, scan(t)))", "none"},
		{"group([0], scan(n))", "null; 2; 5"},
		{"group([0], count, some($0), sum($0), only($0), scan(n))", "null, 2, 0, null, null; 2, 2, 2, 4, null; 5, 1, 1, 5, 5"},
		{"group([0], some(distinct $0), sum(distinct $0), scan(n))", "null, 0, null; 2, 1, 2; 5, 1, 5"},
		{"group([1], count, min($0), max($0), only($0), scan(t))", "null, 1, 1, 1, 1; 2, 1, 3, 3, 3; 5, 2, 2, 4, null"},
		{"group([0 1], count, scan(u))", "'x', false, 1; 'x', true, 2; 'y', null, 1"},
		{"group([0], min($1), max($1), some($1), some(distinct $1), scan(u))", "'x', false, true, 3, 2; 'y', null, null, 0, 0"},
		{"group([1], min($0), max($0), scan(u))", "null, 'y', 'y'; false, 'x', 'x'; true, 'x', 'x'"},
		{"group([], min($0), max($0), only($0), scan(u))", "'x', 'y', null"},
		{"group([], only($1), filter(eq($0, 'y'), scan(u)))", "null"},
		{"group([], only($1), only($0), filter(not($1), scan(u)))", "false, 'x'"},
		{"group([], count, count, map($0, scan(t)))", "4, 4"},
	} {
		check(t, c.rel, c.want)
	}
	most := api.Rel{Op: api.RValues, Cols: columns("int"), Rows: [][]api.Value{
		{{Kind: api.Int, Int: math.MaxInt64}}, {{Kind: api.Int, Int: 1}}, {{Kind: api.Int, Int: 1}},
	}}
	for distinct, want := range map[bool]int64{false: math.MinInt64 + 1, true: math.MinInt64} {
		r := group(most, nil, api.Call{Fn: api.Sum, Distinct: distinct})
		l, e := meaning.Result(shopBase(), shopData(), r)
		if e != api.OK || len(l) != 1 || l[0][0].Int != want {
			t.Errorf("a sum that is wrapped, distinct: %v: %v, %v", distinct, l, e)
		}
	}
}

// TestQueries: P7.1, for relations in expressions.
func TestQueries(t *testing.T) {
	for _, c := range []struct{ rel, want string }{
		{"filter(exists(1, filter(eq($0, ^1.0), scan(n))), scan(t))", "2, 5"},
		{"filter(not(exists(1, filter(eq($0, ^1.0), scan(n)))), scan(t))", "1, null; 3, 2; 4, 5"},
		{"filter(exists(1, scan(n)), scan(t))", "1, null; 2, 5; 3, 2; 4, 5"},
		{"map(exists(1, filter(false, scan(n))), values(int; (1)))", "false"},
		{"map(exists(1, values(int?; (null))), values(int; (1)))", "true"},

		{"filter(in(1, $0, scan(n)), scan(t))", "2, 5"},
		{"filter(not(in(1, $0, scan(n))), scan(t))", "none"},
		{"map($0, in(1, $0, scan(n)), scan(t))", "1, null; 2, true; 3, null; 4, null"},
		{"map($0, in(1, $0, filter(not(isnull($0)), scan(n))), scan(n))", "null, null; null, null; 2, true; 2, true; 5, true"},
		{"map($0, in(1, $0, values(int; (2))), scan(n))", "null, null; null, null; 2, true; 2, true; 5, false"},
		{"map($0, in(1, $0, values(int; )), scan(n))", "null, false; null, false; 2, false; 2, false; 5, false"},
		{"map($0, in(1, $1, $0, scan(t)), scan(t))", "1, null; 2, false; 3, false; 4, false"},
		{"map($0, in(1, $0, $1, scan(t)), scan(t))", "1, null; 2, true; 3, true; 4, true"},
		{"map($0, in(1, $0, 7, scan(t)), scan(t))", "1, null; 2, false; 3, false; 4, false"},
		{"map($0, in(1, null:int, 5, scan(t)), sort([0], 0, 1, scan(t)))", "1, null"},
		{"map(in(1, null:int, 9, values(int int; (1, 2) (3, 4))), values(int; (1)))", "false"},
		{"map(in(1, null:int, 4, values(int int; (1, 2) (3, 4))), values(int; (1)))", "null"},
		{"map(in(1, 'x', true, scan(u)), in(1, 'z', null:bool, scan(u)), in(1, 'y', false, scan(u)), values(int; (1)))", "true, false, null"},
		{"map(in(1, $0, filter(gt($0, ^1.0), map($0, scan(t)))), in(1, add($0, 1), filter(gt($0, ^1.0), map($0, scan(t)))), values(int; (3)))", "false, true"},
		{"filter(in(1, $0, in(1, $0, scan(n)), map($0, true, scan(t))), scan(t))", "2, 5"},

		{"map(one(1, scan(n)), values(int; (1)))", "null"},
		{"map(one(1, values(text; )), values(int; (1)))", "null"},
		{"map(one(1, values(text; ('a'))), values(int; (1)))", "'a'"},
		{"map(one(1, values(text?; (null))), values(int; (1)))", "null"},
		{"map(one(1, values(text; ('a') ('a'))), values(int; (1)))", "null"},
		{"map(one(1, map(add(^1.0, $0), sort([0-], 0, 1, scan(t)))), scan(t))", "5; 6; 7; 8"},
		{"map($0, one(1, map($1, filter(eq($0, ^1.0), scan(t)))), scan(n))", "null, null; null, null; 2, 5; 2, 5; 5, null"},
		{"map(one(1, map(one(2, map(add(^1.0, ^2.0), values(int; (7)))), values(int; (8)))), values(int; (9)))", "17"},
		{"map(one(1, map(one(1, map(add(^1.0, ^1.0), values(int; (7)))), values(int; (8)))), values(int; (9)))", "16"},

		// In a join the row is that of both.
		{"join(inner, exists(1, filter(eq($0, add(^1.0, ^1.2)), scan(n))), scan(t), values(int; (1)))", "1, null, 1; 4, 5, 1"},
		{"join(anti, exists(1, filter(eq($0, add(^1.0, ^1.2)), scan(n))), scan(t), values(int; (1)))", "2, 5; 3, 2"},
		{"join(left, in(1, $1, values(int?; (2) (null))), scan(t), values(int; (1)))", "1, null, null; 2, 5, null; 3, 2, 1; 4, 5, null"},
		{"join(full, eq(one(1, map(add(^1.0, $0), sort([0], 0, 1, scan(t)))), $1), values(int; (1) (2)), values(int; (2) (7)))", "null, 7; 1, 2; 2, null"},

		// What is in an expression is asked for, whatever it is for.
		{"map(case(true, 1, one(1, scan(n))), coalesce(7, one(1, scan(n))), and(false, exists(1, scan(n))), values(int; (1)))", "1, 7, false"},
	} {
		check(t, c.rel, c.want)
	}
}

// TestManyColumns: a pair of rows may have more columns than a row, and an expression may be on all of them.
func TestManyColumns(t *testing.T) {
	first, second := "0, 1, 2, 3, 4, 5, 6, 7, 8, 9, 10, 11, 12, 13, 14, 15", "0, 1, 2, 3, 4, 5, 6, 7, 8, 9, 10, 11, 12, 13, 14, null"
	wide := "values(" + strings.TrimSpace(strings.Repeat("int? ", 16)) + "; (" + first + ") (" + second + "))"
	var same, equal, some []string
	for i := range 16 {
		same = append(same, fmt.Sprintf("same($%d, $%d)", i, i+16))
		equal = append(equal, fmt.Sprintf("eq($%d, $%d)", i, i+16))
	}
	for i := range 32 {
		some = append(some, fmt.Sprintf("coalesce($%d, 100)", i))
	}
	total := added(some) // 240 of first and first, 325 of first and second, 410 of second and second
	for _, c := range []struct{ how, is, want string }{
		{"semi", "and(" + strings.Join(same, ", ") + ")", second + "; " + first},
		{"anti", "and(" + strings.Join(same, ", ") + ")", "none"},
		{"semi", "and(" + strings.Join(equal, ", ") + ")", first},
		{"anti", "and(" + strings.Join(equal, ", ") + ")", second},
		{"semi", "eq($31, 15)", second + "; " + first},
		{"semi", "eq($15, $31)", first},
		{"semi", "eq(" + total + ", 240)", first},
		{"semi", "eq(" + total + ", 410)", second},
		{"semi", "eq(325, " + total + ")", second + "; " + first},
		{"anti", "lt(" + total + ", 300)", second},
		{"anti", "exists(1, filter(eq(^1.31, ^1.15), scan(t)))", second},
		{"semi", "in(1, " + total + ", map(add(405, ^1.5), scan(t)))", second},
		{"semi", "exists(1, filter(eq(" + strings.ReplaceAll(total, "$", "^1.") + ", 240), scan(t)))", first},
		{"semi", "and(in(1, 0, $0, values(int int; (0, 0))), in(1, 1, $31, values(int int; (1, 15))), " + strings.Join(equal[:14], ", ") + ")", second + "; " + first},
	} {
		check(t, "join("+c.how+", "+c.is+", "+wide+", "+wide+")", c.want)
	}
	check(t, "map("+added(slices.Concat(some[:16], some[:16]))+", "+wide+")", "240; 410")
	check(t, "map("+strings.Repeat(added(some[:16])+", ", 2)+wide+")", "120, 120; 205, 205")
}

// added is the string of the sum of l.
func added(l []string) string {
	if len(l) == 1 {
		return l[0]
	}
	return "add(" + added(l[:len(l)/2]) + ", " + added(l[len(l)/2:]) + ")"
}
