package world

import (
	"slices"
	"testing"

	"scenes/api"
)

// room: how many can come to live.
func (m *model) room() int {
	free := 0
	for place := 1; place <= api.MaxEntities; place++ {
		if m.living[api.Handle{Place: place, Life: m.begun[place]}] == nil && m.begun[place] < api.MaxGen {
			free++
		}
	}
	return free
}

// load: the scene is that of another model.
func (m *model) load(s *model) ([]api.Handle, api.Errno) {
	all, _ := s.query(nil)
	if len(all) > m.room() {
		return nil, api.ErrFull
	}
	var l []api.Handle
	for range all {
		h, _ := m.spawn()
		l = append(l, h)
	}
	for k, from := range all {
		for comp, fields := range s.living[from] {
			m.add(l[k], comp)
			for field, v := range fields {
				if v.H != (api.Handle{}) {
					v.H = l[s.number(v.H)]
				}
				m.set(l[k], comp, field, v)
			}
		}
	}
	return l, api.OK
}

func (m *model) put(s *model, over []api.Over) ([]api.Handle, api.Errno, int) {
	all, _ := s.query(nil)
	for k, o := range over {
		if o.Entity < 0 || o.Entity >= len(all) {
			return nil, api.ErrOver, k
		}
		old, e := s.get(all[o.Entity], o.Comp, o.Field)
		if e != api.OK {
			return nil, api.ErrOver, k
		}
		if _, e := m.kept(old.Kind, o.V); e != api.OK {
			return nil, api.ErrOver, k
		}
	}
	l, e := m.load(s)
	if e != api.OK {
		return nil, e, 0
	}
	for _, o := range over {
		m.set(l[o.Entity], o.Comp, o.Field, o.V)
	}
	return l, api.OK, 0
}

// scene: of at most so many entities, drawn.
func (d *drawer) scene(most int) *model {
	s := newModel()
	for range d.below(most + 1) {
		s.spawn()
	}
	for range d.below(most * 10) {
		s.add(d.handle(s), d.comp())
		h, v := d.handle(s), d.value(s)
		c, f := d.field()
		if old, e := s.get(h, c, f); e == api.OK {
			v.Kind = old.Kind
			s.set(h, c, f, v)
		}
	}
	return s
}

// overs: changes of the scene, most of which can be.
func (d *drawer) overs(s, m *model) []api.Over {
	all, _ := s.query(nil)
	var l []api.Over
	for range d.below(4) {
		o := api.Over{Entity: d.below(len(all)+2) - 1, V: d.value(m)}
		o.Comp, o.Field = d.field()
		if d.below(8) > 0 && len(all) > 0 {
			o.Entity = d.below(len(all))
			o.Comp, o.Field = d.own(s, all[o.Entity], o.Comp, o.Field)
			old, _ := s.get(all[o.Entity], o.Comp, o.Field)
			o.V.Kind = old.Kind
		}
		l = append(l, o)
	}
	return l
}

// own: a field that the entity has, or, if it has none, these.
func (d *drawer) own(s *model, h api.Handle, comp, field string) (string, string) {
	var l []fieldOf
	for _, f := range exampleFields {
		if s.living[h][f.comp] != nil {
			l = append(l, f)
		}
	}
	if l == nil {
		return comp, field
	}
	f := oneOf(d, l...)
	return f.comp, f.field
}

// stepScene brings a scene, drawn, into the world and into the model.
func stepScene(t *testing.T, d *drawer, w *World, m *model) {
	t.Helper()
	s := d.scene(oneOf(d, 1, 3, 3, 6))
	var got, want []api.Handle
	var e, wantE api.Errno
	n, wantN := 0, 0
	call := oneOf(d, "Load", "Unpack", "Put", "Put")
	switch call {
	case "Load":
		got, e = w.Load(s.save())
		want, wantE = m.load(s)
	case "Unpack":
		got, e = w.Unpack(s.pack())
		want, wantE = m.load(s)
	case "Put":
		over := d.overs(s, m)
		got, e, n = w.Put(s.save(), over)
		want, wantE, wantN = m.put(s, over)
	}
	if !slices.Equal(got, want) || e != wantE || n != wantN {
		t.Fatalf("%s of %q = %v, %d, %d, want %v, %d, %d", call, s.save(), got, e, n, want, wantE, wantN)
	}
}

// TestManyScenes: each into a world of its own, in which some live already.
func TestManyScenes(t *testing.T) {
	d := drawer(4)
	answers := map[api.Errno]int{}
	for range 400 {
		w, m := begin(t), newModel()
		for range d.below(60) {
			h, _ := w.Spawn()
			m.spawn()
			if d.below(2) == 0 {
				w.Despawn(h)
				m.despawn(h)
			}
		}
		s := d.scene(oneOf(&d, 3, 10, 20))
		for range 4 {
			over := d.overs(s, m)
			got, e, n := w.Put(s.save(), over)
			want, wantE, wantN := m.put(s, over)
			if !slices.Equal(got, want) || e != wantE || n != wantN {
				t.Fatalf("Put(%q, %v) = %v, %d, %d, want %v, %d, %d", s.save(), over, got, e, n, want, wantE, wantN)
			}
			answers[e]++
		}
		wantModel(t, w, m)
	}
	for _, e := range []api.Errno{api.OK, api.ErrOver, api.ErrFull} {
		if answers[e] < 50 {
			t.Errorf("the answer %d: only %d times", e, answers[e])
		}
	}
}
