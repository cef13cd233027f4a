// Package world: entities with components, and scenes of them: see DOC.md.
package world

import (
	"scenes/api"
	"scenes/layout"
	"scenes/table"
)

// World: of a schema.
type World struct {
	layout layout.Layout
	places [api.MaxEntities]place
	tables map[layout.Set]*table.Table // by the components of those who stand there
}

// New: an empty world (P2).
func New(schema string) (*World, api.Errno) {
	l, ok := layout.Read(schema)
	if !ok {
		return nil, api.ErrSchema
	}
	return &World{layout: l}, api.OK
}

// Spawn: an entity comes to live (P2).
func (w *World) Spawn() (api.Handle, api.Errno) {
	return w.spawn(0)
}

// spawn: an entity comes to live, with these components and the first values.
func (w *World) spawn(comps layout.Set) (api.Handle, api.Errno) {
	if w == nil {
		// New hands out nil beside an error: such a world has no places.
		return api.Handle{}, api.ErrFull
	}
	for i := range w.places {
		p := &w.places[i]
		if p.free() {
			h := api.Handle{Place: i + 1, Life: p.begin(comps)}
			w.enter(h, comps)
			return h, api.OK
		}
	}
	return api.Handle{}, api.ErrFull
}

// Despawn: an entity goes (P2).
func (w *World) Despawn(h api.Handle) api.Errno {
	if !w.Alive(h) {
		return api.ErrStale
	}
	p := w.placeOf(h)
	w.leave(h, p.comps)
	p.end()
	for _, t := range w.tables {
		t.Forget(h)
	}
	return api.OK
}

// Alive: does an entity live (P2)?
func (w *World) Alive(h api.Handle) bool {
	if w == nil || h.Place < 1 || h.Place > api.MaxEntities {
		return false
	}
	return w.placeOf(h).hosts(h.Life)
}

// orEmpty: the world itself. New hands out nil beside an error: such a world is
// empty, and has no components.
func (w *World) orEmpty() *World {
	if w == nil {
		return &World{}
	}
	return w
}
