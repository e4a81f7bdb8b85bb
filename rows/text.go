package rows

import (
	"strings"

	"tactician/api"
	"tactician/value"
)

// written returns the string of a row whose values have been checked; different rows have different ones.
func written(row []api.Value) string {
	var out strings.Builder
	out.WriteByte('(')
	for i, v := range row {
		if i > 0 {
			out.WriteString(", ")
		}
		s, _ := value.String(v)
		out.WriteString(s)
	}
	out.WriteByte(')')
	return out.String()
}

// read returns the row whose string s is, of any number of values; false if s is none.
func read(s string) ([]api.Value, bool) {
	s, opened := strings.CutPrefix(s, "(")
	s, closed := strings.CutSuffix(s, ")")
	if !opened || !closed {
		return nil, false
	}
	if s == "" {
		return nil, true
	}
	var row []api.Value
	for {
		at := end(s)
		v, e := value.Parse(s[:at])
		if e != api.OK {
			return nil, false
		}
		row = append(row, v)
		if at == len(s) {
			return row, true
		}
		s = strings.TrimPrefix(s[at:], ", ") // a comma without a blank stays, and no value begins with one
	}
}

// end is where the value at the beginning of s ends: at the first comma outside of a text. A quote in a text is written
// twice, so that in and out are as if one text ended there and another one began.
func end(s string) int {
	inside := false
	for i := range len(s) {
		if s[i] == '\'' {
			inside = !inside
		}
		if s[i] == ',' && !inside {
			return i
		}
	}
	return len(s)
}
