package world

import (
	"math"
	"slices"
	"strings"
	"testing"

	"scenes/api"
)

// everyText: an entity with all components, and one with none.
const everyText = "scene\ne\npos x=1 y=2\nname s=\"a\"\nlink to=@0 next=@1\nflag on=t\nbag l=[1]\nmark\ne\nend\n"

// wantWrong: the first change that cannot be is this one.
func wantWrong(t *testing.T, w *World, text string, l []api.Over, wrong int) {
	t.Helper()
	before := w.Save()
	got, e, n := w.Put(text, l)
	wantRefused(t, w, before, got, e, api.ErrOver)
	if n != wrong {
		t.Errorf("Put(.., %v): the change %d, want %d", l, n, wrong)
	}
}

func TestChangesOfEveryKind(t *testing.T) {
	w := crowded(t, 2)
	l, e, n := w.Put(everyText, []api.Over{
		over(0, "pos", "y", num(-7)), over(0, "name", "s", text("\x00\"\\ abcdefgh")), over(0, "link", "to", ref(handle(2, 1))),
		over(0, "link", "next", ref(api.Handle{})), over(0, "flag", "on", truth(0)), over(0, "bag", "l", list(4, 3, 2, 1)),
	})
	wantSettled(t, l, e, handle(3, 1), handle(4, 1))
	if n != 0 {
		t.Errorf("Put, no error: %d", n)
	}
	wantSaved(t, w, "scene\ne\ne\ne\npos x=1 y=-7\nname s=\"\\x00\\x22\\x5c\\x20abcdefgh\"\nlink to=@1 next=-\nflag on=f\nbag l=[4,3,2,1]\nmark\ne\nend\n",
		"SC1\x04"+"\x00\x03\x00\x00\x01"+"\x3f\x01\x02"+"\x02\x0d"+"\x0c\x00\"\\ abcdefgh"+"\x02\x00"+"\x00"+"\x04\x08\x06\x04\x02")
}

func TestNoChanges(t *testing.T) {
	for _, l := range [][]api.Over{nil, {}} {
		w := crowded(t, 1)
		got, e, n := w.Put(everyText, l)
		wantSettled(t, got, e, handle(2, 1), handle(3, 1))
		if n != 0 {
			t.Errorf("Put, no error: %d", n)
		}
		wantValue(t, w, got[0], "link", "next", ref(got[1]))
	}
}

// TestLaterChangesCount: and those of other entities stand beside them.
func TestLaterChangesCount(t *testing.T) {
	w := crowded(t, 1)
	const text = "scene\ne\npos x=1 y=2\ne\npos x=3 y=4\nlink to=@0 next=@0\nend\n"
	l, e, _ := w.Put(text, []api.Over{
		over(1, "pos", "x", num(10)), over(0, "pos", "x", num(11)), over(1, "pos", "x", num(12)), over(1, "link", "to", ref(api.Handle{})),
		over(1, "link", "to", ref(first())), over(1, "link", "next", ref(first())), over(1, "link", "next", ref(api.Handle{})), over(1, "pos", "x", num(13)),
	})
	wantSettled(t, l, e, handle(2, 1), handle(3, 1))
	wantSaved(t, w, "scene\ne\ne\npos x=11 y=2\ne\npos x=13 y=4\nlink to=@0 next=-\nend\n",
		"SC1\x03"+"\x00\x01\x00"+"\x01\x01\x01\x16\x04"+"\x05\x01\x02\x1a\x08\x01\x00")
}

func TestManyChanges(t *testing.T) {
	w := begin(t)
	l := make([]api.Over, 10000)
	for k := range l {
		l[k] = over(0, "pos", "x", num(k))
	}
	wantWrong(t, w, everyText, append(slices.Clone(l), over(0, "pos", "x", text(""))), 10000)
	got, e, _ := w.Put(everyText, l)
	wantSettled(t, got, e, first(), handle(2, 1))
	wantValue(t, w, got[0], "pos", "x", num(9999))
}

func TestChangesThatCannotBe(t *testing.T) {
	w := crowded(t, 3)
	despawn(t, w, handle(2, 1))
	long := strings.Repeat("a", 13)
	good := over(0, "pos", "x", num(5))
	for _, wrong := range []api.Over{
		{}, over(0, "", "", num(0)),
		// entities
		over(2, "pos", "x", num(0)), over(-1, "pos", "x", num(0)), over(20, "pos", "x", num(0)), over(math.MaxInt, "pos", "x", num(0)), over(math.MinInt, "pos", "x", num(0)), over(1<<32, "pos", "x", num(0)),
		// components and fields
		over(1, "pos", "x", num(0)), over(1, "mark", "x", num(0)), over(0, "none", "x", num(0)), over(0, "Pos", "x", num(0)), over(0, "x", "pos", num(0)), over(0, "pos ", "x", num(0)),
		over(0, "pos", "z", num(0)), over(0, "pos", "", num(0)), over(0, "pos", "X", num(0)), over(0, "name", "x", num(0)), over(0, "mark", "x", num(0)), over(0, "mark", "", num(0)),
		// kinds
		over(0, "pos", "x", api.Value{}), over(0, "pos", "x", text("")), over(0, "pos", "x", truth(1)), over(0, "name", "s", num(0)), over(0, "link", "to", num(0)), over(0, "flag", "on", num(0)),
		over(0, "bag", "l", text("")), over(0, "pos", "x", api.Value{Kind: 6}), over(0, "pos", "x", api.Value{Kind: -1}),
		// bounds
		over(0, "flag", "on", truth(2)), over(0, "flag", "on", truth(-1)), over(0, "name", "s", text(long)), over(0, "bag", "l", list(1, 2, 3, 4, 5)),
		// references: to one that lives no more, that does not live yet, and to nobody's
		over(0, "link", "to", ref(handle(2, 1))), over(0, "link", "to", ref(handle(2, 2))), over(0, "link", "to", ref(handle(4, 1))), over(0, "link", "next", ref(handle(1, 2))),
		over(0, "link", "to", ref(handle(0, 1))), over(0, "link", "to", ref(handle(1, 0))), over(0, "link", "to", ref(handle(-1, -1))), over(0, "link", "to", ref(handle(math.MaxInt, math.MinInt))),
	} {
		wantWrong(t, w, everyText, []api.Over{wrong}, 0)
		wantWrong(t, w, everyText, []api.Over{wrong, wrong, good}, 0)
		wantWrong(t, w, everyText, []api.Over{good, good, wrong, good, wrong}, 2)
	}
	spawn(t, w, 2, 2)
	l, e, _ := w.Put(everyText, []api.Over{good, over(0, "link", "to", ref(handle(2, 2)))})
	wantSettled(t, l, e, handle(4, 1), handle(5, 1))
	wantValue(t, w, l[0], "link", "to", ref(handle(2, 2)))
}

// TestChangesOfNobody: no change of a scene without entities can be.
func TestChangesOfNobody(t *testing.T) {
	wantWrong(t, begin(t), "scene\nend\n", []api.Over{over(0, "pos", "x", num(0))}, 0)
}

// TestPutErrorNamedFirst: ErrScene, ErrOver, ErrFull.
func TestPutErrorNamedFirst(t *testing.T) {
	w := crowded(t, 19)
	good, wrong := over(0, "pos", "x", num(5)), over(0, "pos", "z", num(5))
	before := w.Save()
	for _, c := range []struct {
		text string
		over []api.Over
		e    api.Errno
		n    int
	}{
		{everyText + "\n", []api.Over{good, wrong}, api.ErrScene, 0},
		{everyText, []api.Over{good, wrong}, api.ErrOver, 1},
		{everyText, []api.Over{good, good}, api.ErrFull, 0},
		{everyText, nil, api.ErrFull, 0},
	} {
		l, e, n := w.Put(c.text, c.over)
		wantRefused(t, w, before, l, e, c.e)
		if n != c.n {
			t.Errorf("Put(%q, %v): the change %d, want %d", c.text, c.over, n, c.n)
		}
	}
	despawn(t, w, handle(7, 1))
	l, e, n := w.Put(everyText, []api.Over{good, good})
	wantSettled(t, l, e, handle(7, 2), handle(20, 1))
	if n != 0 {
		t.Errorf("Put, no error: %d", n)
	}
}

// TestClutterOfChangesIsLeftAside: what does not belong to the kind is neither
// looked at nor kept.
func TestClutterOfChangesIsLeftAside(t *testing.T) {
	w := crowded(t, 1)
	dead, long, many := handle(9, 9), strings.Repeat("a", 99), make([]int, 9)
	l, e, _ := w.Put(everyText, []api.Over{
		over(0, "pos", "x", api.Value{Kind: api.Int, N: 4, S: long, H: dead, L: many}),
		over(0, "flag", "on", api.Value{Kind: api.Bool, N: 0, S: long, H: dead, L: many}),
		over(0, "name", "s", api.Value{Kind: api.Text, N: 9, S: "s", H: dead, L: many}),
		over(0, "link", "to", api.Value{Kind: api.Ref, N: 1, S: long, H: first(), L: many}),
		over(0, "link", "next", api.Value{Kind: api.Ref, N: 2, S: long, L: many}),
		over(0, "bag", "l", api.Value{Kind: api.List, N: 9, S: long, H: dead, L: []int{8}}),
	})
	wantSettled(t, l, e, handle(2, 1), handle(3, 1))
	wantValue(t, w, l[0], "pos", "x", num(4))
	wantValue(t, w, l[0], "flag", "on", truth(0))
	wantValue(t, w, l[0], "name", "s", text("s"))
	wantValue(t, w, l[0], "link", "to", ref(first()))
	wantValue(t, w, l[0], "link", "next", ref(api.Handle{}))
	wantValue(t, w, l[0], "bag", "l", list(8))
}

// TestChangesAreOnlyRead: nor are they kept.
func TestChangesAreOnlyRead(t *testing.T) {
	w := begin(t)
	room := []int{1, 2, 3, 4, 5, 6}
	changes := make([]api.Over, 2, 4)
	changes[0] = over(0, "bag", "l", list(room[1:3]...))
	changes[1] = over(0, "pos", "x", num(5))
	l, e, _ := w.Put(everyText, changes)
	want(t, "Put", e, api.OK)
	if !slices.Equal(room, []int{1, 2, 3, 4, 5, 6}) || changes[0].Comp != "bag" || changes[1].V.N != 5 || changes[:3][2].Comp != "" {
		t.Errorf("written into: %v, %v", room, changes[:4])
	}
	for k := range room {
		room[k] = 9
	}
	changes[1] = api.Over{}
	wantValue(t, w, l[0], "bag", "l", list(2, 3))
	wantValue(t, w, l[0], "pos", "x", num(5))
}

// TestChangedReferencesEnd: with whom they refer to, as all do.
func TestChangedReferencesEnd(t *testing.T) {
	w := crowded(t, 1)
	l, e, _ := w.Put(everyText, []api.Over{over(0, "link", "to", ref(first()))})
	want(t, "Put", e, api.OK)
	wantValue(t, w, l[0], "link", "to", ref(first()))
	despawn(t, w, first())
	wantValue(t, w, l[0], "link", "to", ref(api.Handle{}))
	wantValue(t, w, l[0], "link", "next", ref(l[1]))
}
