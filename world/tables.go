package world

import (
	"scenes/api"
	"scenes/layout"
	"scenes/table"
)

// placeOf: that of an entity that lives.
func (w *World) placeOf(h api.Handle) *place {
	return &w.places[h.Place-1]
}

// tableOf: the one in which an entity that lives stands.
func (w *World) tableOf(h api.Handle) *table.Table {
	return w.tables[w.placeOf(h).comps]
}

// enter: the entity comes into the table of these components, which is made
// where it lacks.
func (w *World) enter(h api.Handle, comps layout.Set) {
	if w.tables == nil {
		w.tables = map[layout.Set]*table.Table{}
	}
	if w.tables[comps] == nil {
		w.tables[comps] = table.New(w.layout, comps)
	}
	w.tables[comps].Enter(h)
}

// leave: the entity goes out of the table of these components. Nobody needs
// an empty table.
func (w *World) leave(h api.Handle, comps layout.Set) {
	t := w.tables[comps]
	t.Leave(h)
	if t.Empty() {
		delete(w.tables, comps)
	}
}

// change: the entity has these components from now on, and keeps the values of
// those that it had.
func (w *World) change(h api.Handle, comps layout.Set) {
	p := w.placeOf(h)
	w.enter(h, comps)
	w.tables[comps].Take(h, w.tables[p.comps])
	w.leave(h, p.comps)
	p.comps = comps
}
