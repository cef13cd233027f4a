package world

import (
	"math"
	"slices"
	"strings"
	"sync"
	"testing"

	"scenes/api"
)

// fiveText, fivePack: the scene of 5 of the document's examples.
const (
	fiveText = "scene\ne\nmark\ne\npos x=3 y=-5\nlink to=@0 next=@1\nend\n"
	fivePack = "SC1\x02\x05\x01\x01\x06\x09\x01\x02\x20\x01\x00"
)

func handle(place, life int) api.Handle { return api.Handle{Place: place, Life: life} }

func over(entity int, comp, field string, v api.Value) api.Over {
	return api.Over{Entity: entity, Comp: comp, Field: field, V: v}
}

// crowded: a world in which so many live.
func crowded(t *testing.T, many int) *World {
	t.Helper()
	w := begin(t)
	for k := range many {
		spawn(t, w, k+1, 1)
	}
	return w
}

// wantSettled: an answer that is no error.
func wantSettled(t *testing.T, got []api.Handle, e api.Errno, wanted ...api.Handle) {
	t.Helper()
	if !slices.Equal(got, wanted) || e != api.OK {
		t.Fatalf("%v, %d, want %v", got, e, wanted)
	}
}

// wantRefused: an answer that is this error, behind which the world is as it
// was told ahead of it.
func wantRefused(t *testing.T, w *World, before string, got []api.Handle, e, wanted api.Errno) {
	t.Helper()
	if len(got) > 0 || e != wanted {
		t.Errorf("%v, %d, want the error %d", got, e, wanted)
	}
	if after := w.Save(); after != before {
		t.Errorf("an error, but the world changes: %q, was %q", after, before)
	}
}

// wantNoText, wantNoBytes: no scene.
func wantNoText(t *testing.T, w *World, text string) {
	t.Helper()
	before := w.Save()
	l, e := w.Load(text)
	wantRefused(t, w, before, l, e, api.ErrScene)
	l, e, n := w.Put(text, []api.Over{{Entity: 99}})
	wantRefused(t, w, before, l, e, api.ErrScene)
	if n != 0 {
		t.Errorf("Put(%q): the change %d", text, n)
	}
}

func wantNoBytes(t *testing.T, w *World, bytes string) {
	t.Helper()
	before := w.Save()
	l, e := w.Unpack(bytes)
	wantRefused(t, w, before, l, e, api.ErrScene)
}

// TestExampleSeven: 7 of the document's examples, into an empty world and into
// a full one.
func TestExampleSeven(t *testing.T) {
	for _, w := range []*World{begin(t), crowded(t, api.MaxEntities)} {
		for _, text := range []string{
			"scene\ne\npos y=0 x=0\nend\n", "scene\ne\npos x=00 y=0\nend\n", "scene\ne\nname s=\"a b\"\nend\n",
			"scene\ne\nname s=\"\\x41\"\nend\n", "scene\ne\nlink to=@1 next=-\nend\n", "scene\ne\nmark\npos x=0 y=0\nend\n",
		} {
			wantNoText(t, w, text)
		}
		wantNoBytes(t, w, bytesOf(t, "53 43 31 80 00"))
	}
}

// TestExampleEight: 8 of the document's examples.
func TestExampleEight(t *testing.T) {
	for _, load := range []func(w *World) ([]api.Handle, api.Errno){
		func(w *World) ([]api.Handle, api.Errno) { return w.Load(fiveText) },
		func(w *World) ([]api.Handle, api.Errno) { return w.Unpack(fivePack) },
		func(w *World) ([]api.Handle, api.Errno) {
			l, e, _ := w.Put(fiveText, nil)
			return l, e
		},
	} {
		w := begin(t)
		despawn(t, w, spawn(t, w, 1, 1))
		spawn(t, w, 1, 2)
		l, e := load(w)
		wantSettled(t, l, e, handle(2, 1), handle(3, 1))
		wantValue(t, w, l[1], "link", "to", ref(l[0]))
		wantValue(t, w, l[1], "link", "next", ref(l[1]))
		wantValue(t, w, l[1], "pos", "x", num(3))
		wantValue(t, w, l[1], "pos", "y", num(-5))
		wantSaved(t, w, "scene\ne\ne\nmark\ne\npos x=3 y=-5\nlink to=@1 next=@2\nend\n", "SC1\x03"+"\x00\x01\x00"+"\x05\x01\x02\x06\x09\x02\x03"+"\x20\x01\x01")
	}
}

// TestExampleNine: 9 of the document's examples.
func TestExampleNine(t *testing.T) {
	const text = "scene\ne\nlink to=@0 next=-\nend\n"
	w := crowded(t, 1)
	l, e, n := w.Put(text, []api.Over{over(1, "link", "next", ref(first()))})
	if len(l) > 0 || e != api.ErrOver || n != 0 {
		t.Errorf("a change of entity 1: %v, %d, %d", l, e, n)
	}
	l, e, n = w.Put(text, []api.Over{over(0, "link", "next", ref(first()))})
	wantSettled(t, l, e, handle(2, 1))
	if n != 0 {
		t.Errorf("Put, no error: %d", n)
	}
	wantValue(t, w, l[0], "link", "to", ref(l[0]))
	wantValue(t, w, l[0], "link", "next", ref(first()))
}

// TestNobodyComesIntoAFullWorld: 10 of the document's examples.
func TestNobodyComesIntoAFullWorld(t *testing.T) {
	w := begin(t)
	for range api.MaxEntities * api.MaxGen {
		h, _ := w.Spawn()
		despawn(t, w, h)
	}
	for range 3 {
		wantFullFor(t, w, "scene\ne\nend\n", "SC1\x01\x00\x01\x00")
		wantFullFor(t, w, fiveText, fivePack)
	}
	wantNobody(t, w)
}

// wantNobody: a scene without entities comes, whatever the world.
func wantNobody(t *testing.T, w *World) {
	t.Helper()
	before := w.Save()
	l, e := w.Load("scene\nend\n")
	wantRefused(t, w, before, l, e, api.OK)
	l, e = w.Unpack("SC1\x00")
	wantRefused(t, w, before, l, e, api.OK)
	l, e, n := w.Put("scene\nend\n", nil)
	wantRefused(t, w, before, l, e, api.OK)
	if n != 0 {
		t.Errorf("Put of nobody: %d", n)
	}
}

func wantFullFor(t *testing.T, w *World, text, bytes string) {
	t.Helper()
	before := w.Save()
	l, e := w.Load(text)
	wantRefused(t, w, before, l, e, api.ErrFull)
	l, e = w.Unpack(bytes)
	wantRefused(t, w, before, l, e, api.ErrFull)
	l, e, n := w.Put(text, nil)
	wantRefused(t, w, before, l, e, api.ErrFull)
	if n != 0 {
		t.Errorf("Put, ErrFull: %d", n)
	}
}

// TestRoom: all of them come, or none.
func TestRoom(t *testing.T) {
	for living := range api.MaxEntities + 1 {
		for many := range api.MaxEntities + 1 {
			text, bytes := strings.Repeat("e\n", many), "SC1\x00"
			if many > 0 {
				bytes = string([]byte{'S', 'C', '1', byte(many), 0, byte(many)}) + strings.Repeat("\x00", many)
			}
			text = "scene\n" + text + "end\n"
			w := crowded(t, living)
			if living+many > api.MaxEntities {
				wantFullFor(t, w, text, bytes)
				continue
			}
			l, e := w.Load(text)
			for k, h := range l {
				if h != handle(living+k+1, 1) {
					t.Errorf("the entity %d beside %d: %v", k, living, h)
				}
			}
			if len(l) != many || e != api.OK {
				t.Errorf("Load(%q) beside %d: %v, %d", text, living, l, e)
			}
		}
	}
}

// TestRoomIsNotPlacesAlone: where MaxGen lives have been begun, nobody comes
// to live, though nobody lives there.
func TestRoomIsNotPlacesAlone(t *testing.T) {
	w := begin(t)
	for range api.MaxGen * (api.MaxEntities - 2) {
		h, _ := w.Spawn()
		despawn(t, w, h)
	}
	wantFullFor(t, w, "scene\ne\ne\ne\nend\n", "SC1\x03\x00\x03\x00\x00\x00")
	l, e := w.Load("scene\ne\ne\nend\n")
	wantSettled(t, l, e, handle(19, 1), handle(20, 1))
	wantFullFor(t, w, "scene\ne\nend\n", "SC1\x01\x00\x01\x00")
}

// TestEachAsSpawnWould: at the least place, by its next life; in order.
func TestEachAsSpawnWould(t *testing.T) {
	w := crowded(t, 6)
	for _, h := range []api.Handle{handle(2, 1), handle(4, 1), handle(5, 1)} {
		despawn(t, w, h)
	}
	for life := 2; life <= api.MaxGen; life++ {
		despawn(t, w, spawn(t, w, 2, life))
	}
	despawn(t, w, spawn(t, w, 4, 2))
	l, e := w.Load("scene\ne\npos x=0 y=0\ne\npos x=1 y=0\ne\npos x=2 y=0\ne\npos x=3 y=0\nend\n")
	wantSettled(t, l, e, handle(4, 3), handle(5, 2), handle(7, 1), handle(8, 1))
	for k, h := range l {
		wantValue(t, w, h, "pos", "x", num(k))
	}
	spawn(t, w, 9, 1)
}

// TestReferencesAreAmongTheNew: not to those who lived there already, nor by
// places.
func TestReferencesAreAmongTheNew(t *testing.T) {
	const ring = "scene\ne\nlink to=@1 next=@2\ne\nlink to=@2 next=@0\ne\nlink to=@0 next=-\nend\n"
	const pack = "SC1\x03\x04\x03\x00\x00\x00" + "\x02\x03\x01" + "\x03\x01\x00"
	w := begin(t)
	var all []api.Handle
	for k := range 2 {
		l, e := w.Load(ring)
		want(t, "Load", e, api.OK)
		all = append(all, l...)
		spawn(t, w, 7*k+4, 1)
		l, e = w.Unpack(pack)
		want(t, "Unpack", e, api.OK)
		all = append(all, l...)
	}
	for k := 0; k < len(all); k += 3 {
		a, b, c := all[k], all[k+1], all[k+2]
		wantValue(t, w, a, "link", "to", ref(b))
		wantValue(t, w, a, "link", "next", ref(c))
		wantValue(t, w, b, "link", "to", ref(c))
		wantValue(t, w, b, "link", "next", ref(a))
		wantValue(t, w, c, "link", "to", ref(a))
		wantValue(t, w, c, "link", "next", ref(api.Handle{}))
	}
	// They are references like others: they end with whom they refer to.
	despawn(t, w, all[3])
	wantValue(t, w, all[4], "link", "next", ref(api.Handle{}))
	wantValue(t, w, all[5], "link", "to", ref(api.Handle{}))
	wantValue(t, w, all[1], "link", "next", ref(all[0]))
	wantValue(t, w, all[7], "link", "next", ref(all[6]))
}

// TestLoadedAgain: what was written is loaded into an empty world, and written
// there in the same way.
func TestLoadedAgain(t *testing.T) {
	d := drawer(5)
	for range 200 {
		s := d.scene(api.MaxEntities)
		text, pack := s.save(), s.pack()
		a, b, c := begin(t), begin(t), begin(t)
		_, e := a.Load(text)
		want(t, "Load", e, api.OK)
		_, e = b.Unpack(pack)
		want(t, "Unpack", e, api.OK)
		_, e, _ = c.Put(text, nil)
		want(t, "Put", e, api.OK)
		for _, w := range []*World{a, b, c} {
			wantSaved(t, w, text, pack)
		}
		wantLoadedLikeSpawned(t, a, s)
	}
}

// wantLoadedLikeSpawned: in all that it tells, and tells later.
func wantLoadedLikeSpawned(t *testing.T, w *World, s *model) {
	t.Helper()
	wantModel(t, w, s)
	d := drawer(6)
	for range 20 {
		step(t, &d, w, s)
	}
	wantModel(t, w, s)
}

// TestEdgesOfValuesLoaded: the longest and the greatest.
func TestEdgesOfValuesLoaded(t *testing.T) {
	w := begin(t)
	l, e := w.Load("scene\ne\npos x=9223372036854775807 y=-9223372036854775808\nname s=\"" + strings.Repeat(`\xff`, 12) +
		"\"\nlink to=@0 next=-\nflag on=t\nbag l=[-9223372036854775808,9223372036854775807,0,-1]\nmark\nend\n")
	wantSettled(t, l, e, first())
	pack := w.Pack()
	more, e := w.Unpack(pack)
	wantSettled(t, more, e, handle(2, 1))
	for _, h := range append(l, more...) {
		wantValue(t, w, h, "pos", "x", num(math.MaxInt))
		wantValue(t, w, h, "pos", "y", num(math.MinInt))
		wantValue(t, w, h, "name", "s", text(strings.Repeat("\xff", 12)))
		wantValue(t, w, h, "link", "to", ref(h))
		wantValue(t, w, h, "link", "next", ref(api.Handle{}))
		wantValue(t, w, h, "flag", "on", truth(1))
		wantValue(t, w, h, "bag", "l", list(math.MinInt, math.MaxInt, 0, -1))
	}
}

// TestFullestSceneLoaded: all that a world can hold.
func TestFullestSceneLoaded(t *testing.T) {
	schema, lines := "", ""
	for k := range api.MaxComps {
		name := strings.Repeat(string(rune('a'+k)), api.MaxName)
		schema += name + " l:list r:ref s:text b:bool\n"
		lines += name + " l=[" + strings.Repeat(",-9223372036854775808", 4)[1:] + "] r=@19 s=\"" + strings.Repeat(`\xff`, 12) + "\" b=t\n"
	}
	text := "scene\n" + strings.Repeat("e\n"+lines, 20) + "end\n"
	a, _ := New(schema)
	b, _ := New(schema)
	l, e := a.Load(text)
	if len(l) != api.MaxEntities || e != api.OK || a.Save() != text {
		t.Fatalf("Load of the fullest: %v, %d", l, e)
	}
	l, e = b.Unpack(a.Pack())
	if len(l) != api.MaxEntities || e != api.OK {
		t.Fatalf("Unpack of the fullest: %v, %d", l, e)
	}
	wantSaved(t, b, text, a.Pack())
}

// TestScenesOfOtherSchemas: a scene is one of the world's schema.
func TestScenesOfOtherSchemas(t *testing.T) {
	source := with(t, "pos", "mark")
	for schema, ok := range map[string]bool{
		"pos x:int y:int\nmark\n": true, "pos x:int y:int\nname s:text\nmark\n": true, "a\npos x:int y:int\nb\nmark\n": true,
		"mark\npos x:int y:int\n": false, "pos x:int\nmark\n": false, "pos y:int x:int\nmark\n": false, "pos x:int y:bool\nmark\n": false,
		"pos x:int y:int z:int\nmark\n": false, "pos x:int y:int\n": false, "mark\n": false, "pos x:int y:int\nmark m:int\n": false,
	} {
		w, e := New(schema)
		want(t, "New", e, api.OK)
		if ok {
			l, e := w.Load(source.Save())
			wantSettled(t, l, e, first())
		} else {
			wantNoText(t, w, source.Save())
		}
	}
	w, _ := New("a\nb\nc\nd\nf\n")
	wantNoBytes(t, w, "SC1\x01\x20\x01\x00")
	l, e := w.Unpack("SC1\x01\x1f\x01\x00")
	wantSettled(t, l, e, first())
}

// TestNamesThatAreLinesLoaded: the last end is the scene's, and no other.
func TestNamesThatAreLinesLoaded(t *testing.T) {
	for text, comps := range map[string][][]string{
		"scene\nend\n":                                               nil,
		"scene\ne\nend\n":                                            {{}},
		"scene\ne\nend\nend\n":                                       {{"end"}},
		"scene\ne\nend\ne\nend\n":                                    {{"end"}, {}},
		"scene\ne\ne\nend\nend\n":                                    {{}, {"end"}},
		"scene\ne\nscene\nend\n":                                     {{"scene"}},
		"scene\ne\nend\nscene\ne e=t\ne\nend\nend\n":                 {{"end", "scene", "e"}, {"end"}},
		"scene\ne\ne e=f\ne\ne e=f\nend\n":                           {{"e"}, {"e"}},
		"scene\ne\nend\nscene\ne e=f\ne\nscene\ne\nend\nend\n":       {{"end", "scene", "e"}, {"scene"}, {"end"}},
		"scene\ne\nend\ne\nend\ne\nend\ne\nend\nscene\ne\nend\n":     {{"end"}, {"end"}, {"end"}, {"end", "scene"}, {}},
		"scene\ne\nend\ne\nend\ne\nend\ne\nend\nscene\ne e=f\nend\n": {{"end"}, {"end"}, {"end"}, {"end", "scene", "e"}},
	} {
		w, _ := New("end\nscene\ne e:bool\n")
		l, e := w.Load(text)
		if len(l) != len(comps) || e != api.OK || w.Save() != text {
			t.Fatalf("Load(%q) = %v, %d: %q", text, l, e, w.Save())
		}
		for k, h := range l {
			for _, c := range []string{"end", "scene", "e"} {
				has := w.Add(h, c) == api.ErrHas
				if has != slices.Contains(comps[k], c) {
					t.Errorf("Load(%q): has the entity %d %s? %v", text, k, c, has)
				}
			}
		}
	}
	w, _ := New("end\nscene\ne e:bool\n")
	for _, text := range []string{"scene\nend\nend\n", "scene\ne\nend\nend\nend\n", "scene\nscene\nend\n", "scene\ne\nscene\nend\nend\n", "scene\ne\ne e=t\nend\nend\n", "scene\ne e=t\nend\n", "scene\ne\nend\nscene\ne e=t\n"} {
		wantNoText(t, w, text)
	}
}

// TestCutOff: no piece of a scene is one.
func TestCutOff(t *testing.T) {
	w := with(t, "bag")
	for k := range fiveText {
		wantNoText(t, w, fiveText[:k])
		wantNoText(t, w, fiveText[k+1:])
	}
	for k := range len(fivePack) {
		wantNoBytes(t, w, fivePack[:k])
		wantNoBytes(t, w, fivePack[k+1:])
	}
	wantNoText(t, w, fivePack)
	wantNoBytes(t, w, fiveText)
}

// TestHandlesOfLoadAreNew: what the caller writes into them changes nothing.
func TestHandlesOfLoadAreNew(t *testing.T) {
	w := begin(t)
	a, _ := w.Load(fiveText)
	b, _ := w.Unpack(fivePack)
	c, _, _ := w.Put(fiveText, nil)
	before := w.Save()
	keep := slices.Clone(c)
	for _, l := range [][]api.Handle{a, b} {
		for k := range l[:cap(l)] {
			l[:cap(l)][k] = handle(9, 9)
		}
	}
	if w.Save() != before || !slices.Equal(c, keep) {
		t.Errorf("a list that was handed out hangs on something: %q, %v", w.Save(), c)
	}
	wantValue(t, w, keep[1], "link", "to", ref(keep[0]))
}

// TestListsOfASceneAreApart: each entity has its own.
func TestListsOfASceneAreApart(t *testing.T) {
	w := begin(t)
	l, e := w.Load("scene\ne\nbag l=[1,2]\ne\nbag l=[1,2]\nend\n")
	want(t, "Load", e, api.OK)
	told, _ := w.Get(l[0], "bag", "l")
	for k := range told.L[:cap(told.L)] {
		told.L[:cap(told.L)][k] = 9
	}
	set(t, w, l[1], "bag", "l", list(3))
	wantValue(t, w, l[0], "bag", "l", list(1, 2))
}

func TestLoadsIntoWorldsSideBySide(t *testing.T) {
	var all sync.WaitGroup
	for k := range 16 {
		all.Go(func() {
			w, _ := New(example)
			for range k % 5 {
				w.Spawn()
			}
			for range 7 {
				l, e := w.Load(fiveText)
				if len(l) != 2 || e != api.OK {
					t.Errorf("beside other worlds: %v, %d", l, e)
				}
				if to, _ := w.Get(l[1], "link", "to"); to.H != l[0] {
					t.Errorf("beside other worlds: %v, want %v", to, l[0])
				}
			}
		})
	}
	all.Wait()
}

// TestNoWorldTakesNobody: it has no places, and no components.
func TestNoWorldTakesNobody(t *testing.T) {
	var w *World
	wantNobody(t, w)
	wantFullFor(t, w, "scene\ne\nend\n", "SC1\x01\x00\x01\x00")
	wantNoText(t, w, fiveText)
	wantNoBytes(t, w, fivePack)
	l, e, n := w.Put("scene\ne\nend\n", []api.Over{over(0, "pos", "x", num(1))})
	if len(l) > 0 || e != api.ErrOver || n != 0 {
		t.Errorf("Put into no world: %v, %d, %d", l, e, n)
	}
}
