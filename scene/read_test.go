package scene

import (
	"slices"
	"testing"

	"scenes/api"
	"scenes/layout"
)

// wantWithin: the scene, which was read, is within all bounds, and holds
// nothing that does not belong there.
func wantWithin(t *testing.T, l layout.Layout, s Scene) {
	t.Helper()
	if len(s) > api.MaxEntities {
		t.Fatalf("%d entities", len(s))
	}
	for _, e := range s {
		if e.Comps >= layout.Set(1)<<len(l) {
			t.Fatalf("components %d of %d", e.Comps, len(l))
		}
		for k, values := range e.Values {
			var fields []layout.Field
			if e.Comps.Has(k) {
				fields = l[k].Fields
			}
			if !slices.EqualFunc(fields, values, func(f layout.Field, v api.Value) bool { return belongs(s, f, v) }) {
				t.Fatalf("component %d of %v: %v", k, e.Comps, values)
			}
		}
	}
}

func belongs(s Scene, f layout.Field, v api.Value) bool {
	bare := api.Value{Kind: f.Kind}
	switch f.Kind {
	case api.Int, api.Bool, api.Ref:
		bare.N = v.N
	case api.Text:
		bare.S = v.S
	case api.List:
		bare.L = v.L
	}
	if f.Kind == api.Ref && (v.N < 0 || v.N > len(s)) {
		return false
	}
	return f.Fits(v) && sameValue(v, bare)
}

// some: a scene with all kinds of values in it.
func some() Scene {
	return Scene{
		none().with(mark),
		none(),
		none().with(link, to(4)).with(pos, num(3), num(-50)),
		none().with(all, boolean(1), text("a b\\~"), list(1, -2, 300), toNone()),
		none().with(pos, num(700), num(0)).with(mark).with(link, toNone()),
		none().with(all, boolean(0), text(""), list(), to(0)),
	}
}

// named: components of names that are lines of a scene, or begin as others do.
func named() layout.Layout {
	return layout.Layout{
		{Name: "end"},
		{Name: "e", Fields: []layout.Field{{Name: "x", Kind: api.Ref}}},
		{Name: "scene", Fields: []layout.Field{{Name: "scene", Kind: api.Int}, {Name: "end", Kind: api.Bool}}},
		{Name: "en"},
		{Name: "ee"},
		{Name: "ends"},
	}
}

func someNamed() Scene {
	return Scene{
		none().with(0),
		none().with(0).with(1, to(0)).with(2, num(-1), boolean(1)).with(3).with(4),
		none(),
		none().with(3).with(5),
		none().with(1, toNone()).with(4),
		none().with(0),
	}
}

// TestOtherPanicsAreNotTaken: attempt takes what the readers leave by, and
// nothing else, for a wrong text.
func TestOtherPanicsAreNotTaken(t *testing.T) {
	if s, ok := attempt(func() Scene { panic(noScene{}) }); s != nil || ok {
		t.Errorf("left: %v, %v", s, ok)
	}
	defer func() {
		if r := recover(); r != "other" {
			t.Errorf("another panic: %v", r)
		}
	}()
	attempt(func() Scene { panic("other") })
}
