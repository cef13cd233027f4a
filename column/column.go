// Package column: the values of one field, a row for each entity of a table.
package column

import (
	"slices"

	"scenes/api"
)

// Column: of the values of one kind.
type Column interface {
	// Insert: a row of this number, with the first value; those from there
	// on go one further.
	Insert(row int)
	// Delete: the row is there no more; those behind it come one nearer.
	Delete(row int)
	// Forget: what refers to the entity refers to none.
	Forget(h api.Handle)
	// Get: the row's value. What it holds is the caller's own.
	Get(row int) api.Value
	// Set: the row's value, which must be of the column's kind, is this one.
	// Nothing of what it holds is kept.
	Set(row int, v api.Value)
}

// New: a column of a kind, without rows.
func New(kind api.Kind) Column {
	switch kind {
	case api.Int:
		return &ints{}
	case api.Bool:
		return &bools{}
	case api.Text:
		return &texts{}
	case api.Ref:
		return &refs{}
	default: // api.List: a schema has no sixth kind.
		return &lists{}
	}
}

// rows is what the kinds of columns have in common, whatever they keep.
type rows[T any] struct {
	cells []T
}

// Insert leans on it that the first value of every kind is T's zero.
func (r *rows[T]) Insert(row int) {
	var first T
	r.cells = slices.Insert(r.cells, row, first)
}

func (r *rows[T]) Delete(row int) {
	r.cells = slices.Delete(r.cells, row, row+1)
}

// Forget has nothing to do: all kinds but one refer to nobody.
func (r *rows[T]) Forget(h api.Handle) {}
