// Package table: entities that have the same components, and their values.
package table

import (
	"cmp"
	"slices"

	"scenes/api"
	"scenes/column"
	"scenes/layout"
)

// Table: a row for each entity, a column for each field.
type Table struct {
	entities []api.Handle                  // of each row: by their places, rising
	columns  [api.MaxComps][]column.Column // of each component: none, if the entities have it not
}

// New: a table without entities, for those that have these components.
func New(l layout.Layout, comps layout.Set) *Table {
	t := &Table{}
	for k, c := range l {
		if comps.Has(k) {
			t.columns[k] = columnsOf(c)
		}
	}
	return t
}

func columnsOf(c layout.Comp) []column.Column {
	var l []column.Column
	for _, f := range c.Fields {
		l = append(l, column.New(f.Kind))
	}
	return l
}

// ByPlace: the order of entities, as slices' functions ask for it.
func ByPlace(a, b api.Handle) int {
	return cmp.Compare(a.Place, b.Place)
}

// row: the entity's, or, if it has none, the one that it is to have.
func (t *Table) row(h api.Handle) int {
	row, _ := slices.BinarySearchFunc(t.entities, h, ByPlace)
	return row
}

// each does it for every column, told the numbers of its component and field.
func (t *Table) each(do func(comp, field int, c column.Column)) {
	for comp, fields := range t.columns {
		for field, c := range fields {
			do(comp, field, c)
		}
	}
}

// Enter: an entity that is not in the table comes, with the first values.
func (t *Table) Enter(h api.Handle) {
	row := t.row(h)
	t.entities = slices.Insert(t.entities, row, h)
	t.each(func(_, _ int, c column.Column) { c.Insert(row) })
}

// Leave: an entity of the table goes.
func (t *Table) Leave(h api.Handle) {
	row := t.row(h)
	t.entities = slices.Delete(t.entities, row, row+1)
	t.each(func(_, _ int, c column.Column) { c.Delete(row) })
}

// Empty: are there no entities?
func (t *Table) Empty() bool {
	return len(t.entities) == 0
}

// Entities: by their places, rising; a list of the caller's own.
func (t *Table) Entities() []api.Handle {
	return slices.Clone(t.entities)
}

// Get: a field's value, of an entity of the table.
func (t *Table) Get(h api.Handle, comp, field int) api.Value {
	return t.columns[comp][field].Get(t.row(h))
}

// Values: of an entity of the table: of each component those of its fields, in
// order. They are the caller's own.
func (t *Table) Values(h api.Handle) [api.MaxComps][]api.Value {
	var all [api.MaxComps][]api.Value
	row := t.row(h)
	t.each(func(comp, _ int, c column.Column) {
		all[comp] = append(all[comp], c.Get(row))
	})
	return all
}

// Set: a field's value, of an entity of the table.
func (t *Table) Set(h api.Handle, comp, field int, v api.Value) {
	t.columns[comp][field].Set(t.row(h), v)
}

// Take: the entity, which is in both tables, has here what it has there, as
// far as the components of both go.
func (t *Table) Take(h api.Handle, from *Table) {
	t.each(func(comp, field int, c column.Column) {
		if field < len(from.columns[comp]) {
			c.Set(t.row(h), from.Get(h, comp, field))
		}
	})
}

// Forget: every field that refers to the entity refers to none.
func (t *Table) Forget(h api.Handle) {
	t.each(func(_, _ int, c column.Column) { c.Forget(h) })
}
