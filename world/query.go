package world

import (
	"slices"
	"sync"

	"scenes/api"
	"scenes/layout"
	"scenes/table"
)

// Query: who has some components (P5).
func (w *World) Query(comps []string) ([]api.Handle, api.Errno) {
	w = w.orEmpty()
	wanted, e := w.findAll(comps)
	if e != api.OK {
		return nil, e
	}
	found := w.gather(wanted)
	slices.SortFunc(found, table.ByPlace)
	return found, api.OK
}

// findAll: the components of these names.
func (w *World) findAll(comps []string) (layout.Set, api.Errno) {
	var all layout.Set
	for _, name := range comps {
		k := w.layout.Find(name)
		if k < 0 {
			return 0, api.ErrComp
		}
		all = all.With(k)
	}
	return all, api.OK
}

// gather: who has all of the components, in any order. A worker is done only
// when what it told has been taken, since the channel has no room for it: so
// nothing is left in it when done is closed.
func (w *World) gather(wanted layout.Set) []api.Handle {
	told, done := make(chan []api.Handle), make(chan struct{})
	var workers sync.WaitGroup
	for comps, t := range w.tables {
		workers.Go(func() {
			if comps.HasAll(wanted) {
				told <- t.Entities()
			}
		})
	}
	go func() {
		workers.Wait()
		close(done)
	}()
	var found []api.Handle
	for {
		select {
		case some := <-told:
			found = append(found, some...)
		case <-done:
			return found
		}
	}
}
