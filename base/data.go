package base

import (
	"slices"

	"tactician/api"
	"tactician/rows"
)

// few is the values of a row in the columns of a key that has few of them, as most keys have; behind them are nulls.
type few [2]api.Value

// set is the different rows of values of a key: arrays, where they are few values, otherwise strings.
type set struct {
	arrays map[few]bool
	texts  map[string]bool
}

// isRight takes a base that has been checked.
func isRight(b api.Base, d api.Data) bool {
	if len(d.Rows) != len(b.Tables) {
		return false
	}
	keys := make([][]set, len(b.Tables))
	for i, t := range b.Tables {
		l := d.Rows[i]
		if rows.Check(columns(t), l) != api.OK {
			return false
		}
		for _, key := range t.Keys {
			s := setOf(l, key)
			if s.size() < len(l) {
				return false
			}
			keys[i] = append(keys[i], s)
		}
		for _, ref := range t.Refs {
			other := keys[place(b.Tables, ref.Table)][ref.Key]
			if slices.ContainsFunc(l, breaker(ref.Cols, other)) {
				return false
			}
		}
	}
	return true
}

// breaker returns what tells whether a row breaks the reference of cols to the rows of key.
func breaker(cols []int, key set) func(row []api.Value) bool {
	return func(row []api.Value) bool {
		values := picked(row, cols)
		return !slices.Contains(values, api.Value{}) && !key.has(values)
	}
}

// setOf returns the set of the rows of l, by their values in cols.
func setOf(l [][]api.Value, cols []int) set {
	s := set{arrays: map[few]bool{}, texts: map[string]bool{}}
	for _, row := range l {
		s.add(picked(row, cols))
	}
	return s
}

func (s set) add(values []api.Value) {
	if len(values) <= len(few{}) {
		s.arrays[array(values)] = true
	} else {
		s.texts[text(values)] = true
	}
}

func (s set) has(values []api.Value) bool {
	if len(values) <= len(few{}) {
		return s.arrays[array(values)]
	}
	return s.texts[text(values)]
}

func (s set) size() int {
	return len(s.arrays) + len(s.texts)
}

func array(values []api.Value) few {
	var out few
	copy(out[:], values)
	return out
}

// text is the string of a row that has been checked. (No string of a single row is too large.)
func text(row []api.Value) string {
	s, _ := rows.String([][]api.Value{row})
	return s
}

// picked returns the values of row in cols.
func picked(row []api.Value, cols []int) []api.Value {
	return each(cols, func(col int) api.Value { return row[col] })
}

// without returns the rows of old but for one, the earliest, for each row of l that is the same.
func without(old, l [][]api.Value) [][]api.Value {
	left := map[string]int{}
	for _, row := range l {
		// What is no row is none of old.
		if s, e := rows.String([][]api.Value{row}); e == api.OK {
			left[s]++
		}
	}
	var out [][]api.Value
	for _, row := range old {
		if s := text(row); left[s] > 0 {
			left[s]--
		} else {
			out = append(out, row)
		}
	}
	return out
}
