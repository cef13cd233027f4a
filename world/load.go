package world

import (
	"slices"

	"scenes/api"
	"scenes/scene"
)

// Load: the entities of a text (P8).
func (w *World) Load(text string) ([]api.Handle, api.Errno) {
	s, ok := scene.FromText(text, w.orEmpty().layout)
	if !ok {
		return nil, api.ErrScene
	}
	return w.settle(s)
}

// Unpack: the entities of bytes (P8).
func (w *World) Unpack(bytes string) ([]api.Handle, api.Errno) {
	s, ok := scene.FromBytes(bytes, w.orEmpty().layout)
	if !ok {
		return nil, api.ErrScene
	}
	return w.settle(s)
}

// Put: the entities of a text, with changes (P9).
func (w *World) Put(text string, over []api.Over) ([]api.Handle, api.Errno, int) {
	s, ok := scene.FromText(text, w.orEmpty().layout)
	if !ok {
		return nil, api.ErrScene, 0
	}
	wrong := slices.IndexFunc(over, func(o api.Over) bool { return !w.allows(s, o) })
	if wrong >= 0 {
		return nil, api.ErrOver, wrong
	}
	settled, e := w.settle(s)
	if e != api.OK {
		return nil, e, 0
	}
	for _, o := range over {
		// What was allowed is no error now: nobody has gone since.
		w.Set(settled[o.Entity], o.Comp, o.Field, o.V)
	}
	return settled, api.OK, 0
}

// allows: can the change of the scene be, in the world as it is?
func (w *World) allows(s scene.Scene, o api.Over) bool {
	if o.Entity < 0 || o.Entity >= len(s) {
		return false
	}
	l := w.orEmpty().layout
	k := l.Find(o.Comp)
	if k < 0 || !s[o.Entity].Comps.Has(k) {
		return false
	}
	f := l[k].Find(o.Field)
	return f >= 0 && l[k].Fields[f].Fits(o.V) && !w.dangles(o.V)
}

// settle: the entities of the scene come to live, if there is room for all of
// them. They get their values when all of them live: a reference may be to a
// later one.
func (w *World) settle(s scene.Scene) ([]api.Handle, api.Errno) {
	if len(s) > w.room() {
		return nil, api.ErrFull
	}
	settled := make([]api.Handle, len(s))
	for number, e := range s {
		settled[number], _ = w.spawn(e.Comps)
	}
	for number, e := range s {
		w.fill(settled[number], e, settled)
	}
	return settled, api.OK
}

// room: how many entities can come to live.
func (w *World) room() int {
	if w == nil {
		return 0
	}
	free := 0
	for i := range w.places {
		if w.places[i].free() {
			free++
		}
	}
	return free
}

// fill: the entity has the values that the scene tells of it. References are to
// those of the scene that have settled.
func (w *World) fill(h api.Handle, e scene.Entity, settled []api.Handle) {
	t := w.tableOf(h)
	for k, values := range e.Values {
		for f, v := range values {
			if v.Kind == api.Ref && v.N > 0 {
				v.H = settled[v.N-1]
			}
			t.Set(h, k, f, v)
		}
	}
}
