package world

import (
	"math"
	"strings"
	"sync"
	"testing"

	"scenes/api"
)

const example = "pos x:int y:int\nname s:text\nlink to:ref next:ref\nflag on:bool\nbag l:list\nmark\n"

func begin(t *testing.T) *World {
	t.Helper()
	w, e := New(example)
	if w == nil || e != api.OK {
		t.Fatalf("New(example) = %v, %d", w, e)
	}
	return w
}

func spawn(t *testing.T, w *World, place, life int) api.Handle {
	t.Helper()
	h, e := w.Spawn()
	if want := (api.Handle{Place: place, Life: life}); h != want || e != api.OK {
		t.Fatalf("Spawn() = %v, %d, want %v", h, e, want)
	}
	return h
}

func despawn(t *testing.T, w *World, h api.Handle) {
	t.Helper()
	if e := w.Despawn(h); e != api.OK {
		t.Fatalf("Despawn(%v) = %d", h, e)
	}
}

func wantFull(t *testing.T, w *World) {
	t.Helper()
	if h, e := w.Spawn(); h != (api.Handle{}) || e != api.ErrFull {
		t.Fatalf("Spawn() = %v, %d, want ErrFull", h, e)
	}
}

// oddNumbers are those at which a place or a life may go wrong.
func oddNumbers() []int {
	l := []int{math.MinInt, math.MinInt + 1, -1 << 32, 1 << 32, 1<<32 + 1, 1 << 62, math.MaxInt - 1, math.MaxInt}
	for n := -2; n <= api.MaxEntities+2; n++ {
		l = append(l, n)
	}
	return l
}

// wantLiving asks of every handle that may matter whether it lives.
func wantLiving(t *testing.T, w *World, living map[api.Handle]int) {
	t.Helper()
	for _, place := range oddNumbers() {
		for _, life := range oddNumbers() {
			h := api.Handle{Place: place, Life: life}
			if w.Alive(h) != (living[h] > 0) {
				t.Fatalf("Alive(%v) = %v", h, w.Alive(h))
			}
		}
	}
}

func TestNewRefusesWhatIsNoSchema(t *testing.T) {
	for _, text := range []string{"", "a", "\n", "e\n", "a\na\n", "a b:int b:int\n", "a b:Int\n", "abcdefghi\n", "a\nb\nc\nd\nf\ng\nh\n", "a b:int c:int d:int e:int f:int\n", strings.Repeat("a\n", 1000)} {
		if w, e := New(text); w != nil || e != api.ErrSchema {
			t.Errorf("New(%.40q) = %v, %d", text, w, e)
		}
	}
}

func TestNewWorldIsEmpty(t *testing.T) {
	for _, text := range []string{example, "a\n", "e a:int\n", "end\n"} {
		w, e := New(text)
		if w == nil || e != api.OK {
			t.Fatalf("New(%q) = %v, %d", text, w, e)
		}
		wantLiving(t, w, nil)
		spawn(t, w, 1, 1)
	}
}

// TestExampleOne: 1 of the document's examples.
func TestExampleOne(t *testing.T) {
	w := begin(t)
	a := spawn(t, w, 1, 1)
	spawn(t, w, 2, 1)
	despawn(t, w, a)
	a = spawn(t, w, 1, 2)
	despawn(t, w, a)
	a = spawn(t, w, 1, 3)
	despawn(t, w, a)
	spawn(t, w, 3, 1)
}

// TestExampleTen: 10 of the document's examples.
func TestExampleTen(t *testing.T) {
	w := begin(t)
	for k := range api.MaxEntities * api.MaxGen {
		despawn(t, w, spawn(t, w, k/api.MaxGen+1, k%api.MaxGen+1))
	}
	for range 3 {
		wantFull(t, w)
		wantLiving(t, w, nil)
	}
}

func TestEveryPlaceIsUsed(t *testing.T) {
	w := begin(t)
	living := map[api.Handle]int{}
	for place := 1; place <= api.MaxEntities; place++ {
		living[spawn(t, w, place, 1)] = 1
	}
	wantFull(t, w)
	wantLiving(t, w, living)
	for _, place := range []int{api.MaxEntities, 1, 7} {
		despawn(t, w, api.Handle{Place: place, Life: 1})
		spawn(t, w, place, 2)
		wantFull(t, w)
	}
}

func TestLeastPlaceIsTaken(t *testing.T) {
	w := begin(t)
	for place := 1; place <= 10; place++ {
		spawn(t, w, place, 1)
	}
	for _, place := range []int{9, 2, 5} {
		despawn(t, w, api.Handle{Place: place, Life: 1})
	}
	for _, place := range []int{2, 5, 9} {
		spawn(t, w, place, 2)
	}
	spawn(t, w, 11, 1)
}

func TestPlaceIsClosedBehindItsLastLife(t *testing.T) {
	w := begin(t)
	for place := 1; place <= api.MaxEntities; place++ {
		spawn(t, w, place, 1)
	}
	for life := 1; life < api.MaxGen; life++ {
		despawn(t, w, api.Handle{Place: 20, Life: life})
		spawn(t, w, 20, life+1)
	}
	despawn(t, w, api.Handle{Place: 20, Life: api.MaxGen})
	wantFull(t, w)
	despawn(t, w, api.Handle{Place: 19, Life: 1})
	spawn(t, w, 19, 2)
	wantFull(t, w)
}

func TestDespawnOfNobody(t *testing.T) {
	w := begin(t)
	living := map[api.Handle]int{}
	gone := spawn(t, w, 1, 1)
	living[spawn(t, w, 2, 1)] = 1
	despawn(t, w, gone)
	living[spawn(t, w, 1, 2)] = 1
	for _, place := range oddNumbers() {
		for _, life := range oddNumbers() {
			h := api.Handle{Place: place, Life: life}
			if living[h] == 0 && w.Despawn(h) != api.ErrStale {
				t.Errorf("Despawn(%v): not ErrStale", h)
			}
		}
	}
	wantLiving(t, w, living)
	spawn(t, w, 3, 1)
}

func TestWorldsStandAlone(t *testing.T) {
	a, b := begin(t), begin(t)
	h := spawn(t, a, 1, 1)
	if b.Alive(h) || b.Despawn(h) != api.ErrStale {
		t.Error("an entity of one world lives in another")
	}
	spawn(t, b, 1, 1)
	despawn(t, a, h)
	if !b.Alive(h) {
		t.Error("what goes in one world goes in another")
	}
	for range api.MaxEntities*api.MaxGen - 1 {
		h, _ := a.Spawn()
		despawn(t, a, h)
	}
	wantFull(t, a)
	spawn(t, b, 2, 1)
}

func TestWorldsSideBySide(t *testing.T) {
	var all sync.WaitGroup
	for range 16 {
		all.Go(func() {
			w, _ := New(example)
			for k := range api.MaxEntities * api.MaxGen {
				h, e := w.Spawn()
				want := api.Handle{Place: k/api.MaxGen + 1, Life: k%api.MaxGen + 1}
				if h != want || e != api.OK || w.Despawn(h) != api.OK {
					t.Errorf("beside other worlds: Spawn() = %v, %d, want %v", h, e, want)
				}
			}
		})
	}
	all.Wait()
}

// callAll makes every call there is, with odd things in all of them.
func callAll(w *World) {
	texts := []string{"", "pos", "x", "none", "\n", "\x00\xff", "scene\nend\n", "SC1\x00", "SC1\xff\xff\xff\xff\xff\xff\xff\xff\xff\xff\xff", strings.Repeat("e\n", 1000)}
	handles := []api.Handle{{}, {Place: 1, Life: 1}, {Place: -1, Life: -1}, {Place: 21, Life: 1}, {Place: math.MaxInt, Life: math.MinInt}, {Place: math.MinInt, Life: math.MaxInt}}
	values := []api.Value{{}, {Kind: -1}, {Kind: 6}, {Kind: api.Bool, N: 2}, {Kind: api.Text, S: strings.Repeat("a", 13)}, {Kind: api.Ref, H: handles[2]}, {Kind: api.List, L: make([]int, 5)}}
	for _, h := range handles {
		w.Alive(h)
		w.Despawn(h)
		for _, s := range texts {
			w.Add(h, s)
			w.Remove(h, s)
			w.Get(h, s, s)
			for _, v := range values {
				w.Set(h, s, s, v)
			}
		}
	}
	w.Query(nil)
	w.Query(texts)
	for _, s := range texts {
		w.Load(s)
		w.Unpack(s)
		w.Put(s, nil)
		w.Put(s, []api.Over{{}, {Entity: -1}, {Entity: math.MaxInt, Comp: s, Field: s, V: values[6]}})
	}
	w.Save()
	w.Pack()
	w.Spawn()
}

func TestNoCallPanics(t *testing.T) {
	w := begin(t)
	callAll(w)
	// Once more: now an entity lives.
	callAll(w)
}

func TestNoWorldNeitherPanicsNorLives(t *testing.T) {
	w, e := New("none")
	if w != nil || e != api.ErrSchema {
		t.Fatalf("New(none) = %v, %d", w, e)
	}
	callAll(w)
	wantFull(t, w)
	wantLiving(t, w, nil)
}
