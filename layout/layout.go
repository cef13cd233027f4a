// Package layout: what components a schema has, and what fields these have.
package layout

import (
	"slices"

	"scenes/api"
)

// Field: of a component.
type Field struct {
	Name string
	Kind api.Kind
}

// Comp: a component, with its fields in the schema's order.
type Comp struct {
	Name   string
	Fields []Field
}

// Layout: the components in the schema's order.
type Layout []Comp

// Find: the number, from 0, of the component of a name; -1, if there is none.
func (l Layout) Find(name string) int {
	return slices.IndexFunc(l, func(c Comp) bool { return c.Name == name })
}

// Find: the number, from 0, of the field of a name; -1, if there is none.
func (c Comp) Find(name string) int {
	return slices.IndexFunc(c.Fields, func(f Field) bool { return f.Name == name })
}
