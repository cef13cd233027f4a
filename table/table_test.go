package table

import (
	"slices"
	"testing"

	"scenes/api"
	"scenes/layout"
)

var example = layout.Layout{
	{Name: "pos", Fields: []layout.Field{{Name: "x", Kind: api.Int}, {Name: "y", Kind: api.Int}}},
	{Name: "mark"},
	{Name: "link", Fields: []layout.Field{{Name: "to", Kind: api.Ref}}},
	{Name: "bag", Fields: []layout.Field{{Name: "l", Kind: api.List}}},
}

const (
	pos, mark, link, bag = 0, 1, 2, 3
)

func handle(place int) api.Handle {
	return api.Handle{Place: place, Life: 1 + place%3}
}

func num(n int) api.Value {
	return api.Value{Kind: api.Int, N: n}
}

func wantEntities(t *testing.T, l *Table, places ...int) {
	t.Helper()
	var want []api.Handle
	for _, p := range places {
		want = append(want, handle(p))
	}
	if got := l.Entities(); !slices.Equal(got, want) || l.Empty() != (len(want) == 0) {
		t.Fatalf("Entities() = %v, want %v; Empty() = %v", got, want, l.Empty())
	}
}

func TestEntitiesStandByTheirPlaces(t *testing.T) {
	l := New(example, layout.Set(0).With(pos))
	wantEntities(t, l)
	for _, p := range []int{7, 20, 1, 9} {
		l.Enter(handle(p))
		l.Set(handle(p), pos, 1, num(p))
	}
	wantEntities(t, l, 1, 7, 9, 20)
	l.Leave(handle(7))
	wantEntities(t, l, 1, 9, 20)
	for _, p := range []int{1, 9, 20} {
		if x, y := l.Get(handle(p), pos, 0).N, l.Get(handle(p), pos, 1).N; x != 0 || y != p {
			t.Errorf("of %d: %d, %d", p, x, y)
		}
	}
	l.Enter(handle(7))
	if y := l.Get(handle(7), pos, 1).N; y != 0 {
		t.Errorf("of one that came again: %d", y)
	}
	for _, p := range []int{20, 1, 9, 7} {
		l.Leave(handle(p))
	}
	wantEntities(t, l)
}

func TestNoComponentsAndNoFields(t *testing.T) {
	for _, comps := range []layout.Set{0, layout.Set(0).With(mark)} {
		l := New(example, comps)
		for _, p := range []int{2, 1} {
			l.Enter(handle(p))
		}
		wantEntities(t, l, 1, 2)
		l.Forget(handle(1))
		l.Leave(handle(1))
		wantEntities(t, l, 2)
	}
}

func TestTakeWhatBothHave(t *testing.T) {
	from := New(example, layout.Set(0).With(pos).With(mark).With(bag))
	to := New(example, layout.Set(0).With(pos).With(link))
	for _, p := range []int{1, 2, 3} {
		from.Enter(handle(p))
		from.Set(handle(p), pos, 0, num(p))
		from.Set(handle(p), pos, 1, num(-p))
		from.Set(handle(p), bag, 0, api.Value{Kind: api.List, L: []int{p}})
	}
	to.Enter(handle(1))
	to.Enter(handle(3))
	to.Take(handle(3), from)
	for p, want := range map[int][]int{1: {0, 0}, 3: {3, -3}} {
		got := []int{to.Get(handle(p), pos, 0).N, to.Get(handle(p), pos, 1).N}
		if !slices.Equal(got, want) || to.Get(handle(p), link, 0).H != (api.Handle{}) {
			t.Errorf("of %d: %v, want %v", p, got, want)
		}
	}
	wantEntities(t, from, 1, 2, 3)
	if got := from.Get(handle(3), bag, 0).L; !slices.Equal(got, []int{3}) {
		t.Errorf("where it was taken from: %v", got)
	}
}

func TestForget(t *testing.T) {
	l := New(example, layout.Set(0).With(link).With(pos))
	for p := 1; p <= 4; p++ {
		l.Enter(handle(p))
		l.Set(handle(p), pos, 0, num(p))
		l.Set(handle(p), link, 0, api.Value{Kind: api.Ref, H: handle(1 + p%2)})
	}
	l.Forget(handle(1))
	for p := 1; p <= 4; p++ {
		want := handle(1 + p%2)
		if want == handle(1) {
			want = api.Handle{}
		}
		if to, x := l.Get(handle(p), link, 0).H, l.Get(handle(p), pos, 0).N; to != want || x != p {
			t.Errorf("of %d: %v, %d, want %v", p, to, x, want)
		}
	}
}

func TestEntitiesAreTold(t *testing.T) {
	l := New(example, 0)
	l.Enter(handle(1))
	told := l.Entities()
	for k := range told[:cap(told)] {
		told[:cap(told)][k] = handle(5)
	}
	wantEntities(t, l, 1)
	l.Enter(handle(2))
	wantEntities(t, l, 1, 2)
}

func TestValues(t *testing.T) {
	l := New(example, layout.Set(0).With(pos).With(mark).With(bag))
	for p := 1; p <= 3; p++ {
		l.Enter(handle(p))
		l.Set(handle(p), pos, 0, num(p))
		l.Set(handle(p), pos, 1, num(-p))
		l.Set(handle(p), bag, 0, api.Value{Kind: api.List, L: []int{p}})
	}
	// A second time, behind it that the caller wrote into what was told.
	for range 2 {
		for p := 1; p <= 3; p++ {
			told := l.Values(handle(p))
			if len(told[pos]) != 2 || told[pos][0].N != p || told[pos][1].N != -p || len(told[bag]) != 1 || !slices.Equal(told[bag][0].L, []int{p}) {
				t.Fatalf("of %d: %v", p, told)
			}
			if len(told[mark]) != 0 || len(told[link]) != 0 {
				t.Errorf("of %d, of a component that has no fields or is not there: %v", p, told)
			}
			told[pos][0], told[bag][0].L[0] = num(9), 9
		}
	}
}
