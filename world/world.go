// Package world: entities with components, and scenes of them: see DOC.md.
package world

import (
	"scenes/api"
	"scenes/layout"
	"scenes/table"
)

// World: of a schema.
type World struct {
	layout layout.Layout
	places [api.MaxEntities]place
	tables map[layout.Set]*table.Table // by the components of those who stand there
}

// New: an empty world (P2).
func New(schema string) (*World, api.Errno) {
	l, ok := layout.Read(schema)
	if !ok {
		return nil, api.ErrSchema
	}
	return &World{layout: l}, api.OK
}

// Spawn: an entity comes to live (P2).
func (w *World) Spawn() (api.Handle, api.Errno) {
	if w == nil {
		// New hands out nil beside an error: such a world has no places.
		return api.Handle{}, api.ErrFull
	}
	for i := range w.places {
		p := &w.places[i]
		if p.free() {
			h := api.Handle{Place: i + 1, Life: p.begin()}
			w.enter(h, p.comps)
			return h, api.OK
		}
	}
	return api.Handle{}, api.ErrFull
}

// Despawn: an entity goes (P2).
func (w *World) Despawn(h api.Handle) api.Errno {
	if !w.Alive(h) {
		return api.ErrStale
	}
	p := w.placeOf(h)
	w.leave(h, p.comps)
	p.end()
	for _, t := range w.tables {
		t.Forget(h)
	}
	return api.OK
}

// Alive: does an entity live (P2)?
func (w *World) Alive(h api.Handle) bool {
	if w == nil || h.Place < 1 || h.Place > api.MaxEntities {
		return false
	}
	return w.placeOf(h).hosts(h.Life)
}

// Save: the world as a text (P6).
func (w *World) Save() string { return "" }

// Load: the entities of a text (P8).
func (w *World) Load(text string) ([]api.Handle, api.Errno) { return nil, api.OK }

// Pack: the world as bytes (P7).
func (w *World) Pack() string { return "" }

// Unpack: the entities of bytes (P8).
func (w *World) Unpack(bytes string) ([]api.Handle, api.Errno) { return nil, api.OK }

// Put: the entities of a text, with changes (P9).
func (w *World) Put(text string, over []api.Over) ([]api.Handle, api.Errno, int) {
	return nil, api.OK, 0
}
