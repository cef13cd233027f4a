package world

import (
	"runtime"
	"slices"
	"sync"
	"testing"
	"time"

	"scenes/api"
)

// crowd: a world of all places, in which the entity at place p has the k-th
// component if 2 to the k is in p.
func crowd(t *testing.T) *World {
	t.Helper()
	w := begin(t)
	for place := 1; place <= api.MaxEntities; place++ {
		h := spawn(t, w, place, 1)
		for k, c := range exampleComps {
			if place>>k&1 == 1 {
				add(t, w, h, c)
			}
		}
	}
	return w
}

func wantPlaces(t *testing.T, w *World, comps []string, places ...int) {
	t.Helper()
	l, e := w.Query(comps)
	var got []int
	for _, h := range l {
		got = append(got, h.Place)
		if !w.Alive(h) {
			t.Errorf("Query(%q) tells %v, who does not live", comps, h)
		}
	}
	if !slices.Equal(got, places) || e != api.OK {
		t.Errorf("Query(%q) = %v, %d, want the places %v", comps, l, e, places)
	}
}

func TestQuery(t *testing.T) {
	w := crowd(t)
	var all []int
	for place := 1; place <= api.MaxEntities; place++ {
		all = append(all, place)
	}
	for range 50 {
		wantPlaces(t, w, nil, all...)
		wantPlaces(t, w, []string{}, all...)
		wantPlaces(t, w, []string{"pos"}, 1, 3, 5, 7, 9, 11, 13, 15, 17, 19)
		wantPlaces(t, w, []string{"bag"}, 16, 17, 18, 19, 20)
		wantPlaces(t, w, []string{"bag", "pos"}, 17, 19)
		wantPlaces(t, w, []string{"pos", "bag", "pos", "bag"}, 17, 19)
		wantPlaces(t, w, []string{"flag", "link", "name", "pos"}, 15)
		wantPlaces(t, w, []string{"mark"})
		wantPlaces(t, w, []string{"mark", "pos"})
		wantPlaces(t, w, []string{"flag", "bag"})
	}
}

func TestQueryOfEmptyWorld(t *testing.T) {
	w := begin(t)
	wantPlaces(t, w, nil)
	wantPlaces(t, w, []string{"mark"})
	despawn(t, w, spawn(t, w, 1, 1))
	wantPlaces(t, w, nil)
}

func TestQueryOfNoComponent(t *testing.T) {
	for _, w := range []*World{begin(t), crowd(t)} {
		for _, comps := range [][]string{{""}, {"none"}, {"x"}, {"pos", "none"}, {"none", "pos"}, {"pos", "pos", "Pos"}, {"mark", "pos "}, {"pos\n"}} {
			if l, e := w.Query(comps); len(l) != 0 || e != api.ErrComp {
				t.Errorf("Query(%q) = %v, %d, want ErrComp", comps, l, e)
			}
		}
	}
}

func TestQueryOfManyNames(t *testing.T) {
	w := crowd(t)
	comps := slices.Repeat([]string{"pos", "bag"}, 50000)
	wantPlaces(t, w, comps, 17, 19)
	comps[99999] = "none"
	if l, e := w.Query(comps); len(l) != 0 || e != api.ErrComp {
		t.Errorf("Query of 100000 names = %v, %d, want ErrComp", l, e)
	}
}

// TestQueryFollows: who goes, comes, and changes.
func TestQueryFollows(t *testing.T) {
	w := begin(t)
	a, b, c := spawn(t, w, 1, 1), spawn(t, w, 2, 1), spawn(t, w, 3, 1)
	add(t, w, c, "mark")
	add(t, w, a, "mark", "pos")
	wantPlaces(t, w, []string{"mark"}, 1, 3)
	want(t, "Remove", w.Remove(a, "mark"), api.OK)
	wantPlaces(t, w, []string{"mark"}, 3)
	wantPlaces(t, w, []string{"pos"}, 1)
	add(t, w, b, "mark")
	wantPlaces(t, w, []string{"mark"}, 2, 3)
	despawn(t, w, b)
	wantPlaces(t, w, []string{"mark"}, 3)
	spawn(t, w, 2, 2)
	wantPlaces(t, w, []string{"mark"}, 3)
	wantPlaces(t, w, nil, 1, 2, 3)
}

func TestQueryAnswersNewLists(t *testing.T) {
	w := crowd(t)
	comps := []string{"pos", "bag", "none"}
	a, _ := w.Query(comps[:2])
	b, _ := w.Query(comps[:2])
	for k := range a[:cap(a)] {
		a[:cap(a)][k] = api.Handle{Place: 5, Life: 5}
	}
	if wanted := []api.Handle{{Place: 17, Life: 1}, {Place: 19, Life: 1}}; !slices.Equal(b, wanted) {
		t.Errorf("an answer, after another was written into: %v", b)
	}
	wantPlaces(t, w, comps[:2], 17, 19)
	if !slices.Equal(comps, []string{"pos", "bag", "none"}) {
		t.Errorf("the list that was handed in: %q", comps)
	}
	room := b[:cap(b)]
	held := slices.Clone(room)
	wantPlaces(t, w, nil, 1, 2, 3, 4, 5, 6, 7, 8, 9, 10, 11, 12, 13, 14, 15, 16, 17, 18, 19, 20)
	despawn(t, w, b[0])
	want(t, "Remove", w.Remove(b[1], "pos"), api.OK)
	if !slices.Equal(room, held) {
		t.Errorf("an answer and the room behind its end, after other calls: %v", room)
	}
}

// TestQueryLeavesNoWorkers: those that are about to end are given their time.
func TestQueryLeavesNoWorkers(t *testing.T) {
	w := crowd(t)
	ahead := runtime.NumGoroutine()
	for range 200 {
		w.Query([]string{"pos"})
		w.Query(nil)
		w.Query([]string{"none"})
	}
	for range 200 {
		if runtime.NumGoroutine() <= ahead {
			return
		}
		time.Sleep(5 * time.Millisecond)
	}
	t.Errorf("%d goroutines, %d ahead of the queries", runtime.NumGoroutine(), ahead)
}

func TestQueriesOfWorldsSideBySide(t *testing.T) {
	var all sync.WaitGroup
	for range 16 {
		w := crowd(t)
		all.Go(func() {
			for range 20 {
				wantPlaces(t, w, []string{"bag"}, 16, 17, 18, 19, 20)
			}
		})
	}
	all.Wait()
}

func TestQueryOfNoWorld(t *testing.T) {
	var w *World
	wantPlaces(t, w, nil)
	if l, e := w.Query([]string{"pos"}); len(l) != 0 || e != api.ErrComp {
		t.Errorf("Query = %v, %d, want ErrComp", l, e)
	}
}
