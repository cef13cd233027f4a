// Package world: entities with components, and scenes of them: see DOC.md.
package world

import (
	"scenes/api"
	"scenes/layout"
)

// World: of a schema.
type World struct {
	layout layout.Layout
	places [api.MaxEntities]place
}

// New: an empty world (P2).
func New(schema string) (*World, api.Errno) {
	l, ok := layout.Read(schema)
	if !ok {
		return nil, api.ErrSchema
	}
	return &World{layout: l}, api.OK
}

// Spawn: an entity comes to live (P2).
func (w *World) Spawn() (api.Handle, api.Errno) {
	if w == nil {
		// New hands out nil beside an error: such a world has no places.
		return api.Handle{}, api.ErrFull
	}
	for i := range w.places {
		p := &w.places[i]
		if p.free() {
			return api.Handle{Place: i + 1, Life: p.begin()}, api.OK
		}
	}
	return api.Handle{}, api.ErrFull
}

// Despawn: an entity goes (P2).
func (w *World) Despawn(h api.Handle) api.Errno {
	if !w.Alive(h) {
		return api.ErrStale
	}
	w.places[h.Place-1].end()
	return api.OK
}

// Alive: does an entity live (P2)?
func (w *World) Alive(h api.Handle) bool {
	if w == nil || h.Place < 1 || h.Place > api.MaxEntities {
		return false
	}
	return w.places[h.Place-1].hosts(h.Life)
}

// Add: a component more (P3).
func (w *World) Add(h api.Handle, comp string) api.Errno { return api.OK }

// Remove: a component less (P3).
func (w *World) Remove(h api.Handle, comp string) api.Errno { return api.OK }

// Set: a field's value (P4).
func (w *World) Set(h api.Handle, comp string, field string, v api.Value) api.Errno { return api.OK }

// Get: a field's value (P4).
func (w *World) Get(h api.Handle, comp string, field string) (api.Value, api.Errno) {
	return api.Value{}, api.OK
}

// Query: who has some components (P5).
func (w *World) Query(comps []string) ([]api.Handle, api.Errno) { return nil, api.OK }

// Save: the world as a text (P6).
func (w *World) Save() string { return "" }

// Load: the entities of a text (P8).
func (w *World) Load(text string) ([]api.Handle, api.Errno) { return nil, api.OK }

// Pack: the world as bytes (P7).
func (w *World) Pack() string { return "" }

// Unpack: the entities of bytes (P8).
func (w *World) Unpack(bytes string) ([]api.Handle, api.Errno) { return nil, api.OK }

// Put: the entities of a text, with changes (P9).
func (w *World) Put(text string, over []api.Over) ([]api.Handle, api.Errno, int) {
	return nil, api.OK, 0
}
