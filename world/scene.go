package world

import (
	"scenes/api"
	"scenes/scene"
)

// Save: the world as a text (P6).
func (w *World) Save() string {
	w = w.orEmpty()
	return w.scene().Text(w.layout)
}

// Pack: the world as bytes (P7).
func (w *World) Pack() string {
	w = w.orEmpty()
	return w.scene().Bytes(w.layout)
}

// scene: that of the world: all entities by their places, rising.
func (w *World) scene() scene.Scene {
	living := w.living()
	counts := countRefs(living)
	s := make(scene.Scene, 0, len(living))
	for _, h := range living {
		s = append(s, w.entity(h, counts))
	}
	return s
}

// living: all entities by their places, rising.
func (w *World) living() []api.Handle {
	var l []api.Handle
	for i := range w.places {
		if p := &w.places[i]; p.taken {
			l = append(l, api.Handle{Place: i + 1, Life: p.begun})
		}
	}
	return l
}

// refCounts: what a scene tells of a reference, by the place of the one that is
// referred to. The place is enough, since no field refers to one that lives no
// more; and none, whose place is 0, is told by 0.
type refCounts [1 + api.MaxEntities]int

func countRefs(living []api.Handle) refCounts {
	var counts refCounts
	for number, h := range living {
		counts[h.Place] = number + 1
	}
	return counts
}

// entity: what an entity that lives has, as a scene tells it.
func (w *World) entity(h api.Handle, counts refCounts) scene.Entity {
	e := scene.Entity{Comps: w.placeOf(h).comps, Values: w.tableOf(h).Values(h)}
	for _, values := range e.Values {
		for k, v := range values {
			if v.Kind == api.Ref {
				values[k] = api.Value{Kind: api.Ref, N: counts[v.H.Place]}
			}
		}
	}
	return e
}
