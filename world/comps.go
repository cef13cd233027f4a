package world

import "scenes/api"

// Add: a component more (P3).
func (w *World) Add(h api.Handle, comp string) api.Errno {
	k, e := w.findComp(h, comp)
	if e != api.OK {
		return e
	}
	comps := w.placeOf(h).comps
	if comps.Has(k) {
		return api.ErrHas
	}
	w.change(h, comps.With(k))
	return api.OK
}

// Remove: a component less (P3).
func (w *World) Remove(h api.Handle, comp string) api.Errno {
	k, e := w.findOwn(h, comp)
	if e != api.OK {
		return e
	}
	w.change(h, w.placeOf(h).comps.Without(k))
	return api.OK
}

// Set: a field's value (P4).
func (w *World) Set(h api.Handle, comp string, field string, v api.Value) api.Errno {
	k, f, e := w.findField(h, comp, field)
	if e != api.OK {
		return e
	}
	if !w.layout[k].Fields[f].Fits(v) {
		return api.ErrType
	}
	if w.dangles(v) {
		return api.ErrRef
	}
	w.tableOf(h).Set(h, k, f, v)
	return api.OK
}

// Get: a field's value (P4).
func (w *World) Get(h api.Handle, comp string, field string) (api.Value, api.Errno) {
	k, f, e := w.findField(h, comp, field)
	if e != api.OK {
		return api.Value{}, e
	}
	return w.tableOf(h).Get(h, k, f), api.OK
}

// findComp: the number of a component of the schema, for an entity that lives.
func (w *World) findComp(h api.Handle, comp string) (int, api.Errno) {
	if !w.Alive(h) {
		return 0, api.ErrStale
	}
	k := w.layout.Find(comp)
	if k < 0 {
		return 0, api.ErrComp
	}
	return k, api.OK
}

// findOwn: the number of a component that the entity has.
func (w *World) findOwn(h api.Handle, comp string) (int, api.Errno) {
	k, e := w.findComp(h, comp)
	if e == api.OK && !w.placeOf(h).comps.Has(k) {
		return 0, api.ErrLacks
	}
	return k, e
}

// findField: the numbers of a component that the entity has, and of a field of
// it.
func (w *World) findField(h api.Handle, comp, field string) (int, int, api.Errno) {
	k, e := w.findOwn(h, comp)
	if e != api.OK {
		return 0, 0, e
	}
	f := w.layout[k].Find(field)
	if f < 0 {
		return 0, 0, api.ErrField
	}
	return k, f, api.OK
}

// dangles: does the value refer to an entity that does not live?
func (w *World) dangles(v api.Value) bool {
	return v.Kind == api.Ref && v.H != api.Handle{} && !w.Alive(v.H)
}
