package world

import (
	"maps"
	"slices"
	"testing"

	"scenes/api"
)

// fieldOf: of the example's schema, written out once more.
type fieldOf struct {
	comp, field string
	kind        api.Kind
}

var exampleComps = []string{"pos", "name", "link", "flag", "bag", "mark"}

var exampleFields = []fieldOf{
	{"pos", "x", api.Int}, {"pos", "y", api.Int}, {"name", "s", api.Text}, {"link", "to", api.Ref},
	{"link", "next", api.Ref}, {"flag", "on", api.Bool}, {"bag", "l", api.List},
}

// model is a world of the example told once more, as plainly as can be: of
// each that lives its components, of each of them its fields' values; and the
// lives begun at each place.
type model struct {
	living map[api.Handle]map[string]map[string]api.Value
	begun  map[int]int
}

func newModel() *model {
	return &model{map[api.Handle]map[string]map[string]api.Value{}, map[int]int{}}
}

func (m *model) handles() map[api.Handle]int {
	l := map[api.Handle]int{}
	for h := range m.living {
		l[h] = 1
	}
	return l
}

func (m *model) spawn() (api.Handle, api.Errno) {
	for place := 1; place <= api.MaxEntities; place++ {
		last := api.Handle{Place: place, Life: m.begun[place]}
		if m.living[last] == nil && m.begun[place] < api.MaxGen {
			m.begun[place]++
			last.Life++
			m.living[last] = map[string]map[string]api.Value{}
			return last, api.OK
		}
	}
	return api.Handle{}, api.ErrFull
}

func (m *model) despawn(h api.Handle) api.Errno {
	if m.living[h] == nil {
		return api.ErrStale
	}
	delete(m.living, h)
	for _, comps := range m.living {
		for _, fields := range comps {
			for name, v := range fields {
				if v.Kind == api.Ref && v.H == h {
					fields[name] = api.Value{Kind: api.Ref}
				}
			}
		}
	}
	return api.OK
}

func (m *model) add(h api.Handle, comp string) api.Errno {
	switch {
	case m.living[h] == nil:
		return api.ErrStale
	case !slices.Contains(exampleComps, comp):
		return api.ErrComp
	case m.living[h][comp] != nil:
		return api.ErrHas
	}
	m.living[h][comp] = map[string]api.Value{}
	for _, f := range exampleFields {
		if f.comp == comp {
			m.living[h][comp][f.field] = api.Value{Kind: f.kind}
		}
	}
	return api.OK
}

func (m *model) own(h api.Handle, comp string) api.Errno {
	switch {
	case m.living[h] == nil:
		return api.ErrStale
	case !slices.Contains(exampleComps, comp):
		return api.ErrComp
	case m.living[h][comp] == nil:
		return api.ErrLacks
	}
	return api.OK
}

func (m *model) remove(h api.Handle, comp string) api.Errno {
	e := m.own(h, comp)
	if e == api.OK {
		delete(m.living[h], comp)
	}
	return e
}

func (m *model) get(h api.Handle, comp, field string) (api.Value, api.Errno) {
	if e := m.own(h, comp); e != api.OK {
		return api.Value{}, e
	}
	v, ok := m.living[h][comp][field]
	if !ok {
		return api.Value{}, api.ErrField
	}
	return v, api.OK
}

func (m *model) set(h api.Handle, comp, field string, v api.Value) api.Errno {
	old, e := m.get(h, comp, field)
	if e != api.OK {
		return e
	}
	kept, e := m.kept(old.Kind, v)
	if e == api.OK {
		m.living[h][comp][field] = kept
	}
	return e
}

// kept: what a field of this kind keeps of a value.
func (m *model) kept(kind api.Kind, v api.Value) (api.Value, api.Errno) {
	kept := api.Value{Kind: kind}
	switch kind {
	case api.Int, api.Bool:
		kept.N = v.N
	case api.Text:
		kept.S = v.S
	case api.Ref:
		kept.H = v.H
	case api.List:
		kept.L = slices.Clone(v.L)
	}
	switch {
	case v.Kind != kind:
		return kept, api.ErrType
	case v.Kind == api.Bool && v.N != 0 && v.N != 1:
		return kept, api.ErrType
	case len(kept.S) > 12 || len(kept.L) > 4:
		return kept, api.ErrType
	case kept.H != (api.Handle{}) && m.living[kept.H] == nil:
		return kept, api.ErrRef
	}
	return kept, api.OK
}

func (m *model) query(comps []string) ([]api.Handle, api.Errno) {
	for _, c := range comps {
		if !slices.Contains(exampleComps, c) {
			return nil, api.ErrComp
		}
	}
	var l []api.Handle
	for place := 1; place <= api.MaxEntities; place++ {
		for life := 1; life <= api.MaxGen; life++ {
			h := api.Handle{Place: place, Life: life}
			has := func(c string) bool { return m.living[h][c] != nil }
			if m.living[h] != nil && !slices.ContainsFunc(comps, func(c string) bool { return !has(c) }) {
				l = append(l, h)
			}
		}
	}
	return l, api.OK
}

// same: are they the same value? (An empty list may be nil or not.)
func same(a, b api.Value) bool {
	return a.Kind == b.Kind && a.N == b.N && a.S == b.S && a.H == b.H && slices.Equal(a.L, b.L)
}

// wantModel asks the world for all that it tells, and holds it against the
// model.
func wantModel(t *testing.T, w *World, m *model) {
	t.Helper()
	for place := 0; place <= api.MaxEntities+1; place++ {
		for life := 0; life <= api.MaxGen+1; life++ {
			h := api.Handle{Place: place, Life: life}
			if w.Alive(h) != (m.living[h] != nil) {
				t.Fatalf("Alive(%v) = %v", h, w.Alive(h))
			}
			for _, f := range exampleFields {
				wantGet(t, w, m, h, f.comp, f.field)
			}
			wantGet(t, w, m, h, "mark", "x")
		}
	}
	for n := range 1 << len(exampleComps) {
		var comps []string
		for k, c := range exampleComps {
			if n>>k&1 == 1 {
				comps = append(comps, c)
			}
		}
		wantQuery(t, w, m, comps)
	}
	wantSaved(t, w, m.save(), m.pack())
}

func wantGet(t *testing.T, w *World, m *model, h api.Handle, comp, field string) {
	t.Helper()
	v, e := w.Get(h, comp, field)
	if wantV, wantE := m.get(h, comp, field); !same(v, wantV) || e != wantE {
		t.Fatalf("Get(%v, %q, %q) = %v, %d, want %v, %d", h, comp, field, v, e, wantV, wantE)
	}
}

func wantQuery(t *testing.T, w *World, m *model, comps []string) {
	t.Helper()
	l, e := w.Query(comps)
	if wantL, wantE := m.query(comps); !slices.Equal(l, wantL) || e != wantE {
		t.Fatalf("Query(%q) = %v, %d, want %v, %d", comps, l, e, wantL, wantE)
	}
}

// drawer draws numbers, the same ones in every run.
type drawer uint32

func (d *drawer) below(n int) int {
	*d = *d*1664525 + 1013904223
	return int(*d>>8) % n
}

func oneOf[T any](d *drawer, l ...T) T {
	return l[d.below(len(l))]
}

// handle: mostly one that lives.
func (d *drawer) handle(m *model) api.Handle {
	l := slices.SortedFunc(maps.Keys(m.living), func(a, b api.Handle) int { return a.Place - b.Place })
	if len(l) == 0 || d.below(8) == 0 {
		return api.Handle{Place: d.below(api.MaxEntities + 2), Life: d.below(api.MaxGen + 2)}
	}
	return oneOf(d, l...)
}

// comp: mostly one that there is.
func (d *drawer) comp() string {
	if d.below(12) == 0 {
		return oneOf(d, "", "po", "poss", "Pos", "x", "none", "pos\n")
	}
	return oneOf(d, exampleComps...)
}

// field: mostly one that there is, and with its component.
func (d *drawer) field() (string, string) {
	f := oneOf(d, exampleFields...)
	switch d.below(12) {
	case 0:
		return d.comp(), f.field
	case 1:
		return f.comp, oneOf(d, "", "xx", "X", "pos", "none")
	}
	return f.comp, f.field
}

// value: with something of all kinds in it; what belongs to its kind is
// mostly within the bounds.
func (d *drawer) value(m *model) api.Value {
	v := api.Value{Kind: api.Kind(1 + d.below(5)), N: oneOf(d, 0, 1, 0, 1, 2, -1, 1<<62, -1<<63)}
	v.S = "\x00\"\\ abcdefghijk"[:d.below(14)]
	v.H = oneOf(d, api.Handle{}, d.handle(m))
	v.L = []int{1, -1, 1 << 62, 0, 5}[:d.below(6)]
	if d.below(20) == 0 {
		v.Kind = oneOf(d, api.Kind(0), -1, 6, 1<<40)
	}
	return v
}

// step makes one call, drawn, of the world and of the model.
func step(t *testing.T, d *drawer, w *World, m *model) {
	t.Helper()
	var got, want api.Errno
	h := d.handle(m)
	call := d.below(42)
	switch {
	case call >= 40:
		stepScene(t, d, w, m)
	case call < 4:
		var wantH api.Handle
		h, got = w.Spawn()
		wantH, want = m.spawn()
		if h != wantH {
			t.Fatalf("Spawn() = %v, want %v", h, wantH)
		}
	case call < 6:
		got, want = w.Despawn(h), m.despawn(h)
	case call < 14:
		c := d.comp()
		got, want = w.Add(h, c), m.add(h, c)
	case call < 18:
		c := d.comp()
		got, want = w.Remove(h, c), m.remove(h, c)
	default:
		c, f := d.field()
		v := d.value(m)
		old, e := m.get(h, c, f)
		if e == api.OK && d.below(4) > 0 {
			v.Kind = old.Kind
		}
		got, want = w.Set(h, c, f, v), m.set(h, c, f, v)
	}
	if got != want {
		t.Fatalf("call %d of %v: %d, want %d", call, h, got, want)
	}
}

func TestManyCourses(t *testing.T) {
	d := drawer(1)
	for range 25 {
		w, m := begin(t), newModel()
		for k := range 500 {
			step(t, &d, w, m)
			wantQuery(t, w, m, []string{d.comp(), d.comp()}[:d.below(3)])
			if k%25 == 0 {
				wantModel(t, w, m)
			}
		}
		wantModel(t, w, m)
		wantLiving(t, w, m.handles())
	}
}

// TestEveryStep looks at all of the world behind each call: so that a call
// that answers an error is seen to change nothing.
func TestEveryStep(t *testing.T) {
	d := drawer(2)
	w, m := begin(t), newModel()
	for range 400 {
		step(t, &d, w, m)
		wantModel(t, w, m)
	}
}
