package base

import (
	"slices"
	"strconv"
	"strings"

	"tactician/api"
)

// kinds has the words of the kinds.
var kinds = [...]string{api.Int: "int", api.Bool: "bool", api.Text: "text"}

// written takes a base that has been checked.
func written(b api.Base) string {
	return strings.Join(each(b.Tables, writtenTable), "")
}

func writtenTable(t api.Table) string {
	s := "table " + t.Name + " (" + strings.Join(each(t.Cols, writtenColumn), ", ") + ")"
	for _, key := range t.Keys {
		s += " key " + namesOf(key, t)
	}
	for _, ref := range t.Refs {
		s += " ref " + namesOf(ref.Cols, t) + " " + ref.Table + " " + strconv.Itoa(ref.Key)
	}
	for _, x := range t.Indexes {
		s += " index " + x.Name + " " + namesOf(x.Cols, t)
	}
	return s + "\n"
}

func writtenColumn(c api.Column) string {
	s := c.Name + " " + kinds[c.Kind]
	if c.Null {
		s += " null"
	}
	return s
}

// namesOf returns the names of the columns l of t, in brackets.
func namesOf(l []int, t api.Table) string {
	return "(" + strings.Join(each(l, func(col int) string { return t.Cols[col].Name }), ", ") + ")"
}

// read returns the base whose string s is, if there is one; otherwise anything.
func read(s string) api.Base {
	var b api.Base
	for line := range strings.Lines(s) {
		b.Tables = append(b.Tables, readTable(strings.TrimSuffix(line, "\n")))
	}
	return b
}

// reader has what of a line is still to be read.
type reader struct{ rest string }

// upTo returns what is before the next mark, and goes behind that; without one it takes all.
func (r *reader) upTo(mark string) string {
	before, after, _ := strings.Cut(r.rest, mark)
	r.rest = after
	return before
}

func readTable(line string) api.Table {
	r := &reader{line}
	r.upTo("table ")
	t := api.Table{Name: r.upTo(" (")}
	t.Cols = each(strings.Split(r.upTo(")"), ", "), readColumn)
	for r.rest != "" {
		switch r.upTo(" ") { // what is none of the words, as nothing before a blank, is passed over
		case "key":
			t.Keys = append(t.Keys, r.places(t))
		case "ref":
			t.Refs = append(t.Refs, r.ref(t))
		case "index":
			t.Indexes = append(t.Indexes, api.Index{Name: r.upTo(" "), Cols: r.places(t)})
		}
	}
	return t
}

func readColumn(s string) api.Column {
	name, kind, _ := strings.Cut(s, " ")
	kind, null := strings.CutSuffix(kind, " null")
	return api.Column{Name: name, Kind: readKind(kind), Null: null}
}

func readKind(s string) api.Kind {
	for kind, word := range kinds {
		if word == s {
			return api.Kind(kind)
		}
	}
	return api.Null
}

// places reads names of columns of t, in brackets; a name that it has not is -1.
func (r *reader) places(t api.Table) []int {
	r.upTo("(")
	return each(strings.Split(r.upTo(")"), ", "), func(name string) int {
		return slices.IndexFunc(t.Cols, func(c api.Column) bool { return c.Name == name })
	})
}

func (r *reader) ref(t api.Table) api.Ref {
	cols := r.places(t)
	r.upTo(" ")
	table := r.upTo(" ")
	key, _ := strconv.Atoi(r.upTo(" "))
	return api.Ref{Cols: cols, Table: table, Key: key}
}
