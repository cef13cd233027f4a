package world

import (
	"math"
	"slices"
	"strings"
	"testing"

	"scenes/api"
)

func want(t *testing.T, what string, got, want api.Errno) {
	t.Helper()
	if got != want {
		t.Errorf("%s: %d, want %d", what, got, want)
	}
}

func add(t *testing.T, w *World, h api.Handle, comps ...string) {
	t.Helper()
	for _, c := range comps {
		want(t, "Add "+c, w.Add(h, c), api.OK)
	}
}

func set(t *testing.T, w *World, h api.Handle, comp, field string, v api.Value) {
	t.Helper()
	want(t, "Set "+comp+"."+field, w.Set(h, comp, field, v), api.OK)
}

func wantValue(t *testing.T, w *World, h api.Handle, comp, field string, v api.Value) {
	t.Helper()
	if got, e := w.Get(h, comp, field); !same(got, v) || e != api.OK {
		t.Errorf("Get(%v, %s, %s) = %v, %d, want %v", h, comp, field, got, e, v)
	}
}

// wantNo: Get answers the error, and nothing beside it.
func wantNo(t *testing.T, w *World, h api.Handle, comp, field string, wanted api.Errno) {
	t.Helper()
	v, e := w.Get(h, comp, field)
	want(t, "Get "+comp+"."+field, e, wanted)
	if !same(v, api.Value{}) || v.L != nil {
		t.Errorf("Get(%v, %s, %s), an error: %v", h, comp, field, v)
	}
}

func num(n int) api.Value        { return api.Value{Kind: api.Int, N: n} }
func ref(h api.Handle) api.Value { return api.Value{Kind: api.Ref, H: h} }

// TestExampleTwo: 2 of the document's examples.
func TestExampleTwo(t *testing.T) {
	w := begin(t)
	old := spawn(t, w, 1, 1)
	h := spawn(t, w, 2, 1)
	despawn(t, w, old)
	add(t, w, h, "pos")
	wantValue(t, w, h, "pos", "x", num(0))
	set(t, w, h, "pos", "x", num(7))
	want(t, "Set a text", w.Set(h, "pos", "x", api.Value{Kind: api.Text}), api.ErrType)
	wantValue(t, w, h, "pos", "x", num(7))
	wantNo(t, w, h, "pos", "z", api.ErrField)
	wantNo(t, w, h, "name", "s", api.ErrLacks)
	want(t, "Add again", w.Add(h, "pos"), api.ErrHas)
	want(t, "Add none", w.Add(h, "none"), api.ErrComp)
	wantNo(t, w, old, "pos", "x", api.ErrStale)
	wantNo(t, w, old, "pos", "z", api.ErrStale)
	wantNo(t, w, old, "name", "s", api.ErrStale)
	want(t, "Set of the dead", w.Set(old, "pos", "x", num(7)), api.ErrStale)
	want(t, "Add pos to the dead", w.Add(old, "pos"), api.ErrStale)
	want(t, "Add none to the dead", w.Add(old, "none"), api.ErrStale)
}

// TestExampleThree: 3 of the document's examples.
func TestExampleThree(t *testing.T) {
	w := begin(t)
	spawn(t, w, 1, 1)
	h := spawn(t, w, 2, 1)
	to := spawn(t, w, 3, 1)
	add(t, w, h, "link")
	set(t, w, h, "link", "to", ref(to))
	wantValue(t, w, h, "link", "to", ref(to))
	despawn(t, w, to)
	wantValue(t, w, h, "link", "to", ref(api.Handle{}))
}

func TestFirstValues(t *testing.T) {
	w := begin(t)
	h := spawn(t, w, 1, 1)
	add(t, w, h, exampleComps...)
	for _, f := range exampleFields {
		wantValue(t, w, h, f.comp, f.field, api.Value{Kind: f.kind})
	}
}

func TestAddAndRemoveLeaveTheOthers(t *testing.T) {
	w := begin(t)
	h, u := spawn(t, w, 1, 1), spawn(t, w, 2, 1)
	add(t, w, h, "pos", "name")
	add(t, w, u, "name", "pos")
	set(t, w, h, "pos", "y", num(-5))
	set(t, w, u, "pos", "y", num(6))
	set(t, w, h, "name", "s", api.Value{Kind: api.Text, S: "me"})
	for _, c := range []string{"link", "bag", "mark", "flag"} {
		add(t, w, h, c)
		wantValue(t, w, h, "pos", "y", num(-5))
		wantValue(t, w, h, "name", "s", api.Value{Kind: api.Text, S: "me"})
	}
	set(t, w, h, "bag", "l", api.Value{Kind: api.List, L: []int{1, 2}})
	set(t, w, h, "flag", "on", api.Value{Kind: api.Bool, N: 1})
	set(t, w, h, "link", "next", ref(u))
	want(t, "Remove", w.Remove(h, "pos"), api.OK)
	want(t, "Remove again", w.Remove(h, "pos"), api.ErrLacks)
	wantNo(t, w, h, "pos", "y", api.ErrLacks)
	wantValue(t, w, h, "bag", "l", api.Value{Kind: api.List, L: []int{1, 2}})
	wantValue(t, w, h, "flag", "on", api.Value{Kind: api.Bool, N: 1})
	wantValue(t, w, h, "link", "next", ref(u))
	wantValue(t, w, h, "name", "s", api.Value{Kind: api.Text, S: "me"})
	wantValue(t, w, u, "pos", "y", num(6))
	add(t, w, h, "pos")
	wantValue(t, w, h, "pos", "y", num(0))
}

func TestErrorNamedFirst(t *testing.T) {
	w := begin(t)
	h, dead := spawn(t, w, 1, 1), spawn(t, w, 2, 1)
	despawn(t, w, dead)
	add(t, w, h, "link", "mark")
	wrong := api.Value{Kind: api.Bool, N: 2, H: dead}
	for _, c := range []struct {
		h           api.Handle
		comp, field string
		v           api.Value
		want        api.Errno
	}{
		{dead, "none", "none", wrong, api.ErrStale},
		{h, "none", "none", wrong, api.ErrComp},
		{h, "pos", "none", wrong, api.ErrLacks},
		{h, "link", "none", wrong, api.ErrField},
		{h, "mark", "to", wrong, api.ErrField},
		{h, "link", "to", wrong, api.ErrType},
		{h, "link", "to", ref(dead), api.ErrRef},
	} {
		want(t, "Set "+c.comp+"."+c.field, w.Set(c.h, c.comp, c.field, c.v), c.want)
		if c.want < api.ErrType {
			wantNo(t, w, c.h, c.comp, c.field, c.want)
		}
	}
	want(t, "Add", w.Add(dead, "none"), api.ErrStale)
	want(t, "Remove", w.Remove(dead, "none"), api.ErrStale)
	want(t, "Remove none", w.Remove(h, "none"), api.ErrComp)
	wantValue(t, w, h, "link", "to", ref(api.Handle{}))
}

func TestHandlesOfNobody(t *testing.T) {
	w := begin(t)
	h := spawn(t, w, 1, 1)
	add(t, w, h, "link")
	for _, place := range oddNumbers() {
		for _, life := range oddNumbers() {
			u := api.Handle{Place: place, Life: life}
			if u == h {
				continue
			}
			wanted := api.ErrRef
			if u == (api.Handle{}) {
				wanted = api.OK
			}
			want(t, "Set to nobody", w.Set(h, "link", "to", ref(u)), wanted)
			want(t, "Set of nobody", w.Set(u, "link", "to", ref(h)), api.ErrStale)
			want(t, "Add to nobody", w.Add(u, "pos"), api.ErrStale)
			want(t, "Remove from nobody", w.Remove(u, "link"), api.ErrStale)
			wantNo(t, w, u, "link", "to", api.ErrStale)
		}
	}
	wantValue(t, w, h, "link", "to", ref(api.Handle{}))
}

func TestBounds(t *testing.T) {
	w := begin(t)
	h := spawn(t, w, 1, 1)
	add(t, w, h, exampleComps...)
	bytes := make([]byte, 256)
	for k := range bytes {
		bytes[k] = byte(k)
	}
	for k := 0; k+api.MaxText <= len(bytes); k += api.MaxText {
		v := api.Value{Kind: api.Text, S: string(bytes[k : k+api.MaxText])}
		set(t, w, h, "name", "s", v)
		wantValue(t, w, h, "name", "s", v)
		want(t, "Set thirteen bytes", w.Set(h, "name", "s", api.Value{Kind: api.Text, S: v.S + "a"}), api.ErrType)
		wantValue(t, w, h, "name", "s", v)
	}
	for _, n := range oddNumbers() {
		set(t, w, h, "pos", "x", num(n))
		wantValue(t, w, h, "pos", "x", num(n))
		l := api.Value{Kind: api.List, L: []int{n, n - 1, n, n + 1}}
		set(t, w, h, "bag", "l", l)
		wantValue(t, w, h, "bag", "l", l)
		want(t, "Set five numbers", w.Set(h, "bag", "l", api.Value{Kind: api.List, L: append(l.L, 0)}), api.ErrType)
		wantValue(t, w, h, "bag", "l", l)
		wanted := api.ErrType
		if n == 0 || n == 1 {
			wanted = api.OK
		}
		want(t, "Set a bool", w.Set(h, "flag", "on", api.Value{Kind: api.Bool, N: n}), wanted)
	}
}

func TestKindsDoNotMix(t *testing.T) {
	w := begin(t)
	h := spawn(t, w, 1, 1)
	add(t, w, h, exampleComps...)
	for _, f := range exampleFields {
		for _, kind := range []api.Kind{math.MinInt, -1, 0, api.Int, api.Bool, api.Text, api.Ref, api.List, 6, 1<<32 + 1, math.MaxInt} {
			wanted := api.ErrType
			if kind == f.kind {
				wanted = api.OK
			}
			want(t, "Set "+f.comp, w.Set(h, f.comp, f.field, api.Value{Kind: kind}), wanted)
		}
	}
}

func TestClutterIsLeftAside(t *testing.T) {
	w := begin(t)
	h := spawn(t, w, 1, 1)
	dead := api.Handle{Place: 9, Life: 9}
	long := strings.Repeat("a", 99)
	add(t, w, h, exampleComps...)
	for _, f := range exampleFields {
		v := api.Value{Kind: f.kind, N: 1, S: "s", H: h, L: []int{1}}
		told := api.Value{Kind: f.kind}
		switch f.kind {
		case api.Int, api.Bool:
			v.S, v.H, v.L, told.N = long, dead, make([]int, 9), 1
		case api.Text:
			v.N, v.H, v.L, told.S = 7, dead, make([]int, 9), "s"
		case api.Ref:
			v.N, v.S, v.L, told.H = 7, long, make([]int, 9), h
		case api.List:
			v.N, v.S, v.H, told.L = 7, long, dead, []int{1}
		}
		set(t, w, h, f.comp, f.field, v)
		wantValue(t, w, h, f.comp, f.field, told)
	}
}

func TestListsAreNotShared(t *testing.T) {
	w := begin(t)
	h, u := spawn(t, w, 1, 1), spawn(t, w, 2, 1)
	add(t, w, h, "bag")
	add(t, w, u, "bag")
	room := []int{1, 2, 3, 4, 5, 6}
	set(t, w, h, "bag", "l", api.Value{Kind: api.List, L: room[1:3]})
	told, _ := w.Get(h, "bag", "l")
	set(t, w, u, "bag", "l", told)
	again, _ := w.Get(h, "bag", "l")
	for k := range room {
		room[k] = 9
	}
	for k := range told.L[:cap(told.L)] {
		told.L[:cap(told.L)][k] = 8
	}
	// Moved into another table, it is still its own.
	add(t, w, h, "mark")
	for _, who := range []api.Handle{h, u} {
		wantValue(t, w, who, "bag", "l", api.Value{Kind: api.List, L: []int{2, 3}})
	}
	if !slices.Equal(again.L, []int{2, 3}) {
		t.Errorf("an answer, after another was written into: %v", again.L)
	}
	set(t, w, h, "bag", "l", api.Value{Kind: api.List, L: []int{6, 6}})
	if !slices.Equal(again.L, []int{2, 3}) {
		t.Errorf("an answer, after Set: %v", again.L)
	}
	set(t, w, h, "bag", "l", api.Value{Kind: api.List, L: room[:0]})
	wantValue(t, w, h, "bag", "l", api.Value{Kind: api.List})
	wantValue(t, w, u, "bag", "l", api.Value{Kind: api.List, L: []int{2, 3}})
}

func TestGoneIsReferredToByNobody(t *testing.T) {
	w := begin(t)
	gone, stays := spawn(t, w, 1, 1), spawn(t, w, 2, 1)
	var who []api.Handle
	for k := range 8 {
		h := spawn(t, w, 3+k, 1)
		who = append(who, h)
		add(t, w, h, "link")
		// So that they stand in tables of all sorts.
		for bit, c := range []string{"pos", "mark", "bag"} {
			if k>>bit&1 == 1 {
				add(t, w, h, c)
			}
		}
		set(t, w, h, "link", "to", ref(gone))
		set(t, w, h, "link", "next", ref(stays))
	}
	add(t, w, gone, "link")
	set(t, w, gone, "link", "to", ref(gone))
	set(t, w, gone, "link", "next", ref(who[0]))
	despawn(t, w, gone)
	anew := spawn(t, w, 1, 2)
	for _, h := range who {
		wantValue(t, w, h, "link", "to", ref(api.Handle{}))
		wantValue(t, w, h, "link", "next", ref(stays))
	}
	wantNo(t, w, anew, "link", "to", api.ErrLacks)
	add(t, w, anew, "link")
	wantValue(t, w, anew, "link", "to", ref(api.Handle{}))
	// Who comes to live at the same place is not who lived there.
	want(t, "Set to the dead", w.Set(who[0], "link", "to", ref(gone)), api.ErrRef)
	set(t, w, who[0], "link", "to", ref(anew))
	wantValue(t, w, who[0], "link", "to", ref(anew))
}

func TestRemovedComponentRefersToNobody(t *testing.T) {
	w := begin(t)
	h, to := spawn(t, w, 1, 1), spawn(t, w, 2, 1)
	add(t, w, h, "link")
	set(t, w, h, "link", "to", ref(to))
	want(t, "Remove", w.Remove(h, "link"), api.OK)
	despawn(t, w, to)
	add(t, w, h, "link")
	wantValue(t, w, h, "link", "to", ref(api.Handle{}))
}

// TestOneNameOfTwoFields: a field belongs to its component alone, and may be
// named as a component is.
func TestOneNameOfTwoFields(t *testing.T) {
	w, e := New("a a:int b:bool\nb b:text a:list\ne a:int\nend\n")
	want(t, "New", e, api.OK)
	h := spawn(t, w, 1, 1)
	add(t, w, h, "b", "a", "e", "end")
	set(t, w, h, "a", "a", num(1))
	set(t, w, h, "e", "a", num(2))
	set(t, w, h, "b", "a", api.Value{Kind: api.List, L: []int{3}})
	wantValue(t, w, h, "a", "a", num(1))
	wantValue(t, w, h, "e", "a", num(2))
	wantValue(t, w, h, "b", "a", api.Value{Kind: api.List, L: []int{3}})
	wantValue(t, w, h, "b", "b", api.Value{Kind: api.Text})
	wantNo(t, w, h, "end", "a", api.ErrField)
}

func TestComponentsOfWorldsStandAlone(t *testing.T) {
	a, b := begin(t), begin(t)
	h := spawn(t, a, 1, 1)
	spawn(t, b, 1, 1)
	add(t, a, h, "pos")
	set(t, a, h, "pos", "x", num(1))
	wantNo(t, b, h, "pos", "x", api.ErrLacks)
	add(t, b, h, "pos")
	wantValue(t, b, h, "pos", "x", num(0))
	set(t, b, h, "pos", "x", num(2))
	wantValue(t, a, h, "pos", "x", num(1))
}

// TestTablesEndWithTheirEntities: a world keeps no tables in which nobody
// stands.
func TestTablesEndWithTheirEntities(t *testing.T) {
	w := begin(t)
	a, b := spawn(t, w, 1, 1), spawn(t, w, 2, 1)
	for _, c := range exampleComps {
		add(t, w, a, c)
	}
	if len(w.tables) != 2 {
		t.Errorf("%d tables of two entities that differ", len(w.tables))
	}
	despawn(t, w, a)
	despawn(t, w, b)
	if len(w.tables) != 0 {
		t.Errorf("%d tables of nobody", len(w.tables))
	}
}
