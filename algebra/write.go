package algebra

import (
	"slices"
	"strconv"
	"strings"

	"tactician/api"
	"tactician/rows"
	"tactician/scalar"
)

// written returns the string of r, which has the form.
func written(r api.Rel) string {
	s, _ := shapeOf(r.Op)
	return node(s.word, s.items(r), each(r.Ins, written))
}

// node returns a word, and items behind it in brackets.
func node(word string, items ...[]string) string {
	return word + "(" + strings.Join(slices.Concat(items...), ", ") + ")"
}

func writtenExpr(e api.Expr) string {
	args := each(e.Args, writtenExpr)
	if isQuery(e) {
		return node(queryWords()[e.Op], []string{strconv.Itoa(e.N)}, args, each(e.Rels, written))
	}
	s, _ := scalar.String(flat(e))
	if len(args) == 0 {
		return s
	}
	word, _, _ := strings.Cut(s, "(")
	return node(word, args)
}

func scanItems(r api.Rel) []string {
	return []string{r.Name}
}

func valuesItems(r api.Rel) []string {
	s, _ := rows.String(r.Rows)
	lines := strings.TrimSuffix(s, "\n") // no text has one in it
	return []string{blanks(r.Cols, writtenCol) + "; " + strings.ReplaceAll(lines, "\n", " ")}
}

// exprsItems is for RFilter and RMap.
func exprsItems(r api.Rel) []string {
	return each(r.Exprs, writtenExpr)
}

func joinItems(r api.Rel) []string {
	return append([]string{joinWords()[r.Join]}, each(r.Exprs, writtenExpr)...)
}

func applyItems(r api.Rel) []string {
	return []string{strconv.Itoa(r.N), joinWords()[r.Join]}
}

func groupItems(r api.Rel) []string {
	return append([]string{writtenPlaces(r.Group)}, each(r.Calls, writtenCall)...)
}

func unionItems(api.Rel) []string {
	return nil
}

// setItems is for RBoth and RMinus.
func setItems(r api.Rel) []string {
	if r.All {
		return []string{"all"}
	}
	return nil
}

func sortItems(r api.Rel) []string {
	return []string{"[" + blanks(r.Keys, writtenKey) + "]", strconv.Itoa(r.Offset), strconv.Itoa(r.Fetch)}
}

func leafItems(r api.Rel) []string {
	return []string{strconv.Itoa(r.N) + "; " + blanks(r.Cols, writtenCol) + "; " + blanks(r.Sets, writtenPlaces)}
}

// blanks returns the strings of the elements of l, with blanks between.
func blanks[T any](l []T, of func(T) string) string {
	return strings.Join(each(l, of), " ")
}

func writtenCol(c api.Col) string {
	if c.Null {
		return kindWords()[c.Kind] + "?"
	}
	return kindWords()[c.Kind]
}

func writtenPlaces(l []int) string {
	return "[" + blanks(l, strconv.Itoa) + "]"
}

func writtenKey(k api.Key) string {
	if k.Desc {
		return strconv.Itoa(k.Col) + "-"
	}
	return strconv.Itoa(k.Col)
}

func writtenCall(call api.Call) string {
	word, of := callWords()[call.Fn], "$"+strconv.Itoa(call.Col)
	if call.Fn == api.Count {
		return word
	}
	if call.Distinct {
		of = "distinct " + of
	}
	return word + "(" + of + ")"
}
