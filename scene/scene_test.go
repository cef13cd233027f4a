package scene

import (
	"encoding/binary"
	"fmt"
	"math"
	"slices"
	"strconv"
	"strings"
	"testing"

	"scenes/api"
	"scenes/layout"
)

var example = layout.Layout{
	{Name: "pos", Fields: []layout.Field{{Name: "x", Kind: api.Int}, {Name: "y", Kind: api.Int}}},
	{Name: "mark"},
	{Name: "link", Fields: []layout.Field{{Name: "to", Kind: api.Ref}}},
	{Name: "all", Fields: []layout.Field{{Name: "b", Kind: api.Bool}, {Name: "s", Kind: api.Text}, {Name: "l", Kind: api.List}, {Name: "r", Kind: api.Ref}}},
}

const (
	pos, mark, link, all = 0, 1, 2, 3
)

func num(n int) api.Value     { return api.Value{Kind: api.Int, N: n} }
func boolean(n int) api.Value { return api.Value{Kind: api.Bool, N: n} }
func text(s string) api.Value { return api.Value{Kind: api.Text, S: s} }
func list(l ...int) api.Value { return api.Value{Kind: api.List, L: l} }
func toNone() api.Value       { return api.Value{Kind: api.Ref} }
func to(number int) api.Value { return api.Value{Kind: api.Ref, N: number + 1} }
func none() (e Entity)        { return e }
func only(v api.Value) Scene  { return Scene{none().with(0, v)} }
func ofOne(k api.Kind) layout.Layout {
	return layout.Layout{{Name: "c", Fields: []layout.Field{{Name: "f", Kind: k}}}}
}

func (e Entity) with(comp int, values ...api.Value) Entity {
	e.Comps = e.Comps.With(comp)
	e.Values[comp] = values
	return e
}

// wantWritten: the scene is written so, and read back from it.
func wantWritten(t *testing.T, l layout.Layout, s Scene, text, pack string) {
	t.Helper()
	if got := s.Text(l); got != text {
		t.Errorf("Text: %q, want %q", got, text)
	}
	if got := s.Bytes(l); got != pack {
		t.Errorf("Bytes: %q, want %q", got, pack)
	}
	if got, ok := FromText(text, l); !ok || !same(got, s) {
		t.Errorf("FromText(%q) = %v, %v, want %v", text, got, ok, s)
	}
	if got, ok := FromBytes(pack, l); !ok || !same(got, s) {
		t.Errorf("FromBytes(%q) = %v, %v, want %v", pack, got, ok, s)
	}
}

// same: are they the same scene? (An empty list may be nil or not.)
func same(a, b Scene) bool {
	return slices.EqualFunc(a, b, func(a, b Entity) bool {
		for k := range a.Values {
			if !slices.EqualFunc(a.Values[k], b.Values[k], sameValue) {
				return false
			}
		}
		return a.Comps == b.Comps
	})
}

func sameValue(a, b api.Value) bool {
	return a.Kind == b.Kind && a.N == b.N && a.S == b.S && a.H == b.H && slices.Equal(a.L, b.L)
}

func TestNobody(t *testing.T) {
	wantWritten(t, example, nil, "scene\nend\n", "SC1\x00")
	wantWritten(t, example, Scene{}, "scene\nend\n", "SC1\x00")
	wantWritten(t, nil, nil, "scene\nend\n", "SC1\x00")
}

func TestWritten(t *testing.T) {
	s := Scene{
		none().with(mark),
		none(),
		none().with(link, to(4)).with(pos, num(3), num(-5)),
		none().with(all, boolean(1), text("a b"), list(1, -2), toNone()),
		none().with(pos, num(7), num(-8)).with(link, toNone()),
		none(),
		none().with(all, boolean(0), text(""), list(), to(6)),
	}
	wantWritten(t, example, s,
		"scene\ne\nmark\ne\ne\npos x=3 y=-5\nlink to=@4\ne\nall b=t s=\"a\\x20b\" l=[1,-2] r=-\ne\npos x=7 y=-8\nlink to=-\ne\ne\nall b=f s=\"\" l=[] r=@6\nend\n",
		"SC1\x07"+
			"\x00\x02\x01\x03"+
			"\x02\x01\x00"+
			"\x05\x02\x02\x01"+"\x06\x0e"+"\x09\x0f"+"\x05\x00"+
			"\x08\x02\x03\x02"+"\x01\x00"+"\x03a b\x00"+"\x02\x02\x03\x00"+"\x00\x07")
}

// TestEveryByte: of a text.
func TestEveryByte(t *testing.T) {
	for b := range 256 {
		s := string([]byte{'a', byte(b), 'z'})
		told := string(rune(b))
		if b <= 32 || b >= 127 || b == 34 || b == 92 {
			told = fmt.Sprintf(`\x%02x`, b)
		}
		wantWritten(t, ofOne(api.Text), only(text(s)), "scene\ne\nc f=\"a"+told+"z\"\nend\n", "SC1\x01\x01\x01\x00\x03"+s)
	}
	for n := range api.MaxText + 1 {
		s := strings.Repeat("\\", n)
		wantWritten(t, ofOne(api.Text), only(text(s)), "scene\ne\nc f=\""+strings.Repeat(`\x5c`, n)+"\"\nend\n", "SC1\x01\x01\x01\x00"+string(rune(n))+s)
	}
}

// someNumbers: those around which a byte more is needed.
func someNumbers() []int {
	l := []int{math.MinInt, math.MinInt + 1, math.MaxInt, math.MaxInt - 1}
	for k := range 63 {
		for d := -2; d <= 2; d++ {
			l = append(l, 1<<k+d, -1<<k+d)
		}
	}
	return l
}

func TestEveryLengthOfNumbers(t *testing.T) {
	for _, n := range someNumbers() {
		packed := string(binary.AppendVarint(nil, int64(n)))
		told := strconv.Itoa(n)
		wantWritten(t, ofOne(api.Int), only(num(n)), "scene\ne\nc f="+told+"\nend\n", "SC1\x01\x01\x01\x00"+packed)
		for k := range api.MaxList + 1 {
			l := make([]int, k)
			for i := range l {
				l[i] = n
			}
			wantWritten(t, ofOne(api.List), only(list(l...)),
				"scene\ne\nc f=["+strings.TrimSuffix(strings.Repeat(told+",", k), ",")+"]\nend\n",
				"SC1\x01\x01\x01\x00"+string(rune(k))+strings.Repeat(packed, k))
		}
	}
}

// TestNumbersAsBytes: some of them written out, apart from any library.
func TestNumbersAsBytes(t *testing.T) {
	for n, want := range map[int]string{
		0: "\x00", -1: "\x01", 1: "\x02", -2: "\x03", 63: "\x7e", -64: "\x7f", 64: "\x80\x01", -65: "\x81\x01",
		8191: "\xfe\x7f", -8192: "\xff\x7f", 8192: "\x80\x80\x01",
		math.MaxInt: "\xfe\xff\xff\xff\xff\xff\xff\xff\xff\x01", math.MinInt: "\xff\xff\xff\xff\xff\xff\xff\xff\xff\x01",
	} {
		if got := string(appendNumber(nil, n)); got != want {
			t.Errorf("the number %d: %x, want %x", n, got, want)
		}
	}
	for n, want := range map[int]string{0: "\x00", 1: "\x01", 127: "\x7f", 128: "\x80\x01", 300: "\xac\x02", 16383: "\xff\x7f", 16384: "\x80\x80\x01"} {
		if got := string(appendCount(nil, n)); got != want {
			t.Errorf("the count %d: %x, want %x", n, got, want)
		}
	}
}

// TestEverySet: a block for each set of components, by the sums, whatever the
// order of the entities.
func TestEverySet(t *testing.T) {
	l := layout.Layout{{Name: "a"}, {Name: "b"}, {Name: "c"}, {Name: "d"}, {Name: "f"}, {Name: "g"}}
	for comps := range 64 {
		s := make(Scene, api.MaxEntities)
		lines := "scene\n"
		for k := range s {
			s[k].Comps = layout.Set(comps)
			if k == 7 {
				s[k].Comps = layout.Set(63 - comps)
			}
			lines += "e\n"
			for i, c := range l {
				if s[k].Comps.Has(i) {
					lines += c.Name + "\n"
				}
			}
		}
		one := string([]byte{byte(63 - comps), 1, 7})
		others := string([]byte{byte(comps), 19}) + strings.Repeat("\x00", 7) + "\x01" + strings.Repeat("\x00", 11)
		pack := "SC1\x14" + one + others
		if comps < 63-comps {
			pack = "SC1\x14" + others + one
		}
		wantWritten(t, l, s, lines+"end\n", pack)
	}
}

// TestGaps: those between count, whichever blocks have them.
func TestGaps(t *testing.T) {
	s := make(Scene, api.MaxEntities)
	for k := range s {
		s[k] = none().with(mark)
		if k == 3 || k == 4 || k == 19 {
			s[k] = none().with(link, to(k))
		}
	}
	want := "SC1\x14\x02\x11" + "\x00\x00\x00\x02" + strings.Repeat("\x00", 13) + "\x04\x03\x03\x00\x0e" + "\x04\x05\x14"
	if got := s.Bytes(example); got != want {
		t.Errorf("Bytes: %x, want %x", got, want)
	}
}

// TestNamesThatAreLines: a component may be named as a line of a scene is.
func TestNamesThatAreLines(t *testing.T) {
	l := layout.Layout{{Name: "end"}, {Name: "scene"}, {Name: "e", Fields: []layout.Field{{Name: "e", Kind: api.Bool}}}}
	s := Scene{none().with(0).with(1).with(2, boolean(1)), none().with(0)}
	wantWritten(t, l, s, "scene\ne\nend\nscene\ne e=t\ne\nend\nend\n", "SC1\x02"+"\x01\x01\x01"+"\x07\x01\x00\x01")
}

// TestScenesAreOnlyRead: writing one down changes nothing in it.
func TestScenesAreOnlyRead(t *testing.T) {
	room := []int{1, 2, 3, 4, 5, 6}
	s := Scene{none().with(all, boolean(1), text("a"), list(room[:3]...), to(0))}
	for range 3 {
		wantWritten(t, example, s, "scene\ne\nall b=t s=\"a\" l=[1,2,3] r=@0\nend\n", "SC1\x01\x08\x01\x00\x01\x01a\x03\x02\x04\x06\x01")
	}
	if room[3] != 4 {
		t.Errorf("the room behind a list's end: %v", room)
	}
}
