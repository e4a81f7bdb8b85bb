package base

import (
	"slices"
	"strings"

	"tactician/api"
	"tactician/rows"
)

// words are those of queries, with blanks around; no name is one of them.
const words = " all and as asc between by case cross desc distinct else end except exists false from full group having in inner" +
	" intersect is join left limit not null offset on or order outer right select then true union values when where "

func isBase(b api.Base) bool {
	if len(b.Tables) > api.MaxTables {
		return false
	}
	var indexes []string
	for i, t := range b.Tables {
		if !isTable(t, b.Tables[:i]) {
			return false
		}
		indexes = append(indexes, each(t.Indexes, indexName)...)
	}
	return areNames(each(b.Tables, tableName)) && areNames(indexes)
}

// isTable tells whether t can be behind the tables earlier, which have been checked, but for the names of t and its indexes.
func isTable(t api.Table, earlier []api.Table) bool {
	if rows.CheckCols(columns(t)) != api.OK || !areNames(each(t.Cols, columnName)) {
		return false
	}
	return areKeys(t) && areRefs(t, earlier) && areIndexes(t)
}

func areKeys(t api.Table) bool {
	if len(t.Keys) > api.MaxKeys {
		return false
	}
	for i, key := range t.Keys {
		if !arePlaces(key, t) || !slices.IsSorted(key) {
			return false
		}
		if slices.ContainsFunc(key, func(col int) bool { return t.Cols[col].Null }) {
			return false
		}
		if slices.ContainsFunc(t.Keys[:i], func(other []int) bool { return slices.Equal(key, other) }) {
			return false
		}
	}
	return true
}

func areRefs(t api.Table, earlier []api.Table) bool {
	if len(t.Refs) > api.MaxKeys {
		return false
	}
	for _, ref := range t.Refs {
		at := place(earlier, ref.Table)
		if at < 0 || ref.Key < 0 || ref.Key >= len(earlier[at].Keys) || !arePlaces(ref.Cols, t) {
			return false
		}
		other := earlier[at]
		if !slices.EqualFunc(ref.Cols, other.Keys[ref.Key], func(a, b int) bool { return t.Cols[a].Kind == other.Cols[b].Kind }) {
			return false
		}
	}
	return true
}

// areIndexes leaves out the names: those of all tables are checked together.
func areIndexes(t api.Table) bool {
	return len(t.Indexes) <= api.MaxKeys && !slices.ContainsFunc(t.Indexes, func(x api.Index) bool { return !arePlaces(x.Cols, t) })
}

// arePlaces tells whether l is at least one column of t, each once.
func arePlaces(l []int, t api.Table) bool {
	if len(l) == 0 || slices.Min(l) < 0 || slices.Max(l) >= len(t.Cols) {
		return false
	}
	return areDifferent(l)
}

func areNames(l []string) bool {
	return !slices.ContainsFunc(l, isNoName) && areDifferent(l)
}

func isNoName(s string) bool {
	if s == "" || len(s) > api.MaxName || s[0] < 'a' || s[0] > 'z' || strings.Contains(words, " "+s+" ") {
		return true
	}
	return strings.Trim(s, "abcdefghijklmnopqrstuvwxyz0123456789_") != ""
}

func areDifferent[T comparable](l []T) bool {
	seen := map[T]bool{}
	for _, x := range l {
		seen[x] = true
	}
	return len(seen) == len(l)
}

func tableName(t api.Table) string { return t.Name }

func columnName(c api.Column) string { return c.Name }

func indexName(x api.Index) string { return x.Name }
