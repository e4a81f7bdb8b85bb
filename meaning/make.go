package meaning

import (
	"tactician/api"
	"tactician/rows"
)

// maker makes relations, and counts what that takes.
type maker struct {
	leaves [][][]api.Value
	left   int // of the work that there may be
}

// tooLarge is the panic by which a maker gives up.
type tooLarge struct{}

// outer is a row around a relation, with the next one, going outwards. An expression is within the row that it is on, and
// so are the relations in it.
type outer struct {
	row    []api.Value
	around *outer
}

// made returns what f makes; ErrLarge if that is too large.
func made[T any](leaves [][][]api.Value, f func(m *maker) T) (out T, e api.Errno) {
	defer func() {
		if recover() != nil {
			e = api.ErrLarge
		}
	}()
	return f(&maker{leaves, api.MaxWork}), api.OK
}

// spend counts work.
func (m *maker) spend(work int) {
	if work > m.left {
		panic(tooLarge{})
	}
	m.left -= work
}

// put makes x, and hands its rows to out.
func (m *maker) put(x relation, around *outer, out func(row []api.Value)) {
	m.spend(1)
	n := 0
	x.put(m, around, func(row []api.Value) {
		n++
		if n > api.MaxRows {
			panic(tooLarge{})
		}
		m.spend(1)
		out(row)
	})
}

// list makes x, and returns its rows.
func (m *maker) list(x relation, around *outer) [][]api.Value {
	var l [][]api.Value
	m.put(x, around, func(row []api.Value) { l = append(l, row) })
	return l
}

// result makes x, which is in nothing, and returns its result. An RSort puts out its rows in order, and in new memory.
func (m *maker) result(x relation) [][]api.Value {
	l := m.list(x, nil)
	if _, ok := x.(sorted); ok {
		return l
	}
	l, _ = rows.Canonical(l)
	return l
}
