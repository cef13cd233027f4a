package world

import (
	"encoding/hex"
	"fmt"
	"strings"
	"sync"
	"testing"

	"scenes/api"
)

func wantSaved(t *testing.T, w *World, text, pack string) {
	t.Helper()
	if got := w.Save(); got != text {
		t.Errorf("Save() = %q, want %q", got, text)
	}
	if got := w.Pack(); got != pack {
		t.Errorf("Pack() = %q, want %q", got, pack)
	}
}

func text(s string) api.Value { return api.Value{Kind: api.Text, S: s} }
func truth(n int) api.Value   { return api.Value{Kind: api.Bool, N: n} }
func list(l ...int) api.Value { return api.Value{Kind: api.List, L: l} }
func first() api.Handle       { return api.Handle{Place: 1, Life: 1} }

// bytesOf: of base 16, with blanks wherever they please.
func bytesOf(t *testing.T, base16 string) string {
	t.Helper()
	b, err := hex.DecodeString(strings.ReplaceAll(base16, " ", ""))
	if err != nil {
		t.Fatal(err)
	}
	return string(b)
}

// with: a world with one entity that has these components.
func with(t *testing.T, comps ...string) *World {
	t.Helper()
	w := begin(t)
	add(t, w, spawn(t, w, 1, 1), comps...)
	return w
}

// TestExampleFour: 4 of the document's examples.
func TestExampleFour(t *testing.T) {
	w := begin(t)
	wantSaved(t, w, "scene\nend\n", "SC1\x00")
	despawn(t, w, spawn(t, w, 1, 1))
	wantSaved(t, w, "scene\nend\n", "SC1\x00")
}

// TestExampleFive: 5 of the document's examples.
func TestExampleFive(t *testing.T) {
	w := begin(t)
	h, u := spawn(t, w, 1, 1), spawn(t, w, 2, 1)
	add(t, w, h, "mark")
	add(t, w, u, "pos", "link")
	set(t, w, u, "pos", "x", num(3))
	set(t, w, u, "pos", "y", num(-5))
	set(t, w, u, "link", "to", ref(h))
	set(t, w, u, "link", "next", ref(u))
	wantSaved(t, w, "scene\ne\nmark\ne\npos x=3 y=-5\nlink to=@0 next=@1\nend\n", bytesOf(t, "53 43 31 02 05 01 01 06 09 01 02 20 01 00"))
}

// TestExampleSix: 6 of the document's examples.
func TestExampleSix(t *testing.T) {
	w := with(t, "name", "bag")
	set(t, w, first(), "name", "s", text("a \""))
	set(t, w, first(), "bag", "l", list(1, -2))
	wantSaved(t, w, "scene\ne\nname s=\"a\\x20\\x22\"\nbag l=[1,-2]\nend\n", "SC1\x01\x12\x01\x00\x03a \"\x02\x02\x03")
}

func TestFirstValuesWritten(t *testing.T) {
	wantSaved(t, with(t, exampleComps...), "scene\ne\npos x=0 y=0\nname s=\"\"\nlink to=- next=-\nflag on=f\nbag l=[]\nmark\nend\n",
		"SC1\x01\x3f\x01\x00"+"\x00\x00"+"\x00"+"\x00\x00"+"\x00"+"\x00")
}

func TestNoComponentsWritten(t *testing.T) {
	w := begin(t)
	for place := 1; place <= api.MaxEntities; place++ {
		spawn(t, w, place, 1)
	}
	wantSaved(t, w, "scene\n"+strings.Repeat("e\n", 20)+"end\n", "SC1\x14\x00\x14"+strings.Repeat("\x00", 20))
}

// TestNumbersAreNotPlaces: those that live are numbered without gaps, in
// whatever life they are, and whatever came when.
func TestNumbersAreNotPlaces(t *testing.T) {
	w := begin(t)
	var l []api.Handle
	for place := 1; place <= 9; place++ {
		l = append(l, spawn(t, w, place, 1))
	}
	for _, k := range []int{0, 2, 3, 6} {
		despawn(t, w, l[k])
	}
	l[0] = spawn(t, w, 1, 2)
	despawn(t, w, l[0])
	l[0] = spawn(t, w, 1, 3)
	despawn(t, w, l[0])
	l[2] = spawn(t, w, 3, 2)
	// Now the places 2, 3, 5, 6, 8 and 9 are lived at: the numbers 0 to 5.
	add(t, w, l[1], "link")
	add(t, w, l[2], "link")
	add(t, w, l[8], "link", "mark")
	set(t, w, l[1], "link", "to", ref(l[8]))
	set(t, w, l[1], "link", "next", ref(l[2]))
	set(t, w, l[2], "link", "to", ref(l[1]))
	set(t, w, l[2], "link", "next", ref(l[7]))
	set(t, w, l[8], "link", "next", ref(l[4]))
	wantSaved(t, w, "scene\ne\nlink to=@5 next=@1\ne\nlink to=@0 next=@4\ne\ne\ne\ne\nlink to=- next=@2\nmark\nend\n",
		"SC1\x06"+"\x00\x03\x02\x00\x00"+"\x04\x02\x00\x00"+"\x06\x01"+"\x02\x05"+"\x24\x01\x05\x00\x03")
	despawn(t, w, l[4])
	wantSaved(t, w, "scene\ne\nlink to=@4 next=@1\ne\nlink to=@0 next=@3\ne\ne\ne\nlink to=- next=-\nmark\nend\n",
		"SC1\x05"+"\x00\x02\x02\x00"+"\x04\x02\x00\x00"+"\x05\x01"+"\x02\x04"+"\x24\x01\x04\x00\x00")
	despawn(t, w, l[1])
	wantSaved(t, w, "scene\ne\nlink to=- next=@2\ne\ne\ne\nlink to=- next=-\nmark\nend\n",
		"SC1\x04"+"\x00\x02\x01\x00"+"\x04\x01\x00\x00\x03"+"\x24\x01\x03\x00\x00")
}

// TestWrittenInTheSchemasOrder: not in that in which the components came.
func TestWrittenInTheSchemasOrder(t *testing.T) {
	w := with(t, "mark", "bag", "flag", "link", "name", "pos")
	set(t, w, first(), "flag", "on", truth(1))
	set(t, w, first(), "link", "next", ref(first()))
	text, pack := "scene\ne\npos x=0 y=0\nname s=\"\"\nlink to=- next=@0\nflag on=t\nbag l=[]\nmark\nend\n", "SC1\x01\x3f\x01\x00"+"\x00\x00"+"\x00"+"\x00\x01"+"\x01"+"\x00"
	wantSaved(t, w, text, pack)
	want(t, "Remove", w.Remove(first(), "pos"), api.OK)
	wantSaved(t, w, strings.Replace(text, "pos x=0 y=0\n", "", 1), "SC1\x01\x3e\x01\x00"+"\x00"+"\x00\x01"+"\x01"+"\x00")
	add(t, w, first(), "pos")
	wantSaved(t, w, text, pack)
}

func TestEveryByteOfTexts(t *testing.T) {
	w := with(t, "name")
	for b := range 256 {
		s := strings.Repeat(string([]byte{byte(b)}), api.MaxText)
		set(t, w, first(), "name", "s", text(s))
		told := string([]byte{byte(b)})
		if b < 33 || b > 126 || b == '"' || b == '\\' {
			told = fmt.Sprintf(`\x%02x`, b)
		}
		wantSaved(t, w, "scene\ne\nname s=\""+strings.Repeat(told, api.MaxText)+"\"\nend\n", "SC1\x01\x02\x01\x00\x0c"+s)
	}
}

func TestNumbersWritten(t *testing.T) {
	w := with(t, "pos", "bag")
	for _, c := range []struct {
		n          int
		told, pack string
	}{
		{0, "0", "00"}, {1, "1", "02"}, {-1, "-1", "01"}, {9, "9", "12"}, {10, "10", "14"}, {63, "63", "7e"}, {64, "64", "80 01"}, {-64, "-64", "7f"}, {-65, "-65", "81 01"},
		{8191, "8191", "fe 7f"}, {8192, "8192", "80 80 01"}, {-8192, "-8192", "ff 7f"}, {-8193, "-8193", "81 80 01"},
		{1<<63 - 1, "9223372036854775807", "fe ff ff ff ff ff ff ff ff 01"}, {-1 << 63, "-9223372036854775808", "ff ff ff ff ff ff ff ff ff 01"},
		{1 << 62, "4611686018427387904", "80 80 80 80 80 80 80 80 80 01"}, {1<<62 - 1, "4611686018427387903", "fe ff ff ff ff ff ff ff 7f"},
	} {
		set(t, w, first(), "pos", "y", num(c.n))
		set(t, w, first(), "bag", "l", list(c.n, 0, c.n, c.n))
		wantSaved(t, w, "scene\ne\npos x=0 y="+c.told+"\nbag l=["+c.told+",0,"+c.told+","+c.told+"]\nend\n",
			bytesOf(t, "53 43 31 01 11 01 00 00"+c.pack+"04"+c.pack+"00"+c.pack+c.pack))
	}
}

// TestColumnsOfABlock: the values of a field stand together, those of the next
// behind them; the blocks come by their sums.
func TestColumnsOfABlock(t *testing.T) {
	w := begin(t)
	for place := 1; place <= 5; place++ {
		h := spawn(t, w, place, 1)
		add(t, w, h, []string{"", "pos", "flag", "pos", "name", "pos"}[place])
	}
	for k, place := range []int{1, 3, 5} {
		h := api.Handle{Place: place, Life: 1}
		set(t, w, h, "pos", "x", num(k+1))
		set(t, w, h, "pos", "y", num(k+11))
		if place > 1 {
			add(t, w, h, "bag")
			set(t, w, h, "bag", "l", list(make([]int, k)...))
		}
	}
	wantSaved(t, w, "scene\ne\npos x=1 y=11\ne\nflag on=f\ne\npos x=2 y=12\nbag l=[0]\ne\nname s=\"\"\ne\npos x=3 y=13\nbag l=[0,0]\nend\n",
		bytesOf(t, "53 43 31 05  01 01 00 02 16  02 01 03 00  08 01 01 00  11 02 02 01 04 06 18 1a 01 00 02 00 00"))
}

// TestFullestScene: all that a world can hold.
func TestFullestScene(t *testing.T) {
	schema := ""
	for k := range api.MaxComps {
		name := strings.Repeat(string(rune('a'+k)), api.MaxName)
		schema += name + " l:list r:ref s:text b:bool\n"
	}
	w, e := New(schema)
	want(t, "New", e, api.OK)
	last := api.Handle{Place: api.MaxEntities, Life: 1}
	for range api.MaxEntities {
		w.Spawn()
	}
	lines, l := "", list(-1<<63, -1<<63, -1<<63, -1<<63)
	for k := range api.MaxComps {
		c := strings.Repeat(string(rune('a'+k)), api.MaxName)
		lines += c + " l=[" + strings.Repeat(",-9223372036854775808", 4)[1:] + "] r=@19 s=\"" + strings.Repeat(`\xff`, 12) + "\" b=t\n"
		for place := 1; place <= api.MaxEntities; place++ {
			h := api.Handle{Place: place, Life: 1}
			add(t, w, h, c)
			set(t, w, h, c, "l", l)
			set(t, w, h, c, "r", ref(last))
			set(t, w, h, c, "s", text(strings.Repeat("\xff", 12)))
			set(t, w, h, c, "b", truth(1))
		}
	}
	columns := strings.Repeat("\x04"+strings.Repeat("\xff\xff\xff\xff\xff\xff\xff\xff\xff\x01", 4), 20) + strings.Repeat("\x14", 20) +
		strings.Repeat("\x0c"+strings.Repeat("\xff", 12), 20) + strings.Repeat("\x01", 20)
	wantSaved(t, w, "scene\n"+strings.Repeat("e\n"+lines, 20)+"end\n",
		"SC1\x14\x3f\x14"+strings.Repeat("\x00", 20)+strings.Repeat(columns, 6))
}

// TestNamesThatAreLines: a component may be named as a line of a scene is.
func TestNamesThatAreLines(t *testing.T) {
	w, e := New("end\nscene\ne e:bool\n")
	want(t, "New", e, api.OK)
	h, u := spawn(t, w, 1, 1), spawn(t, w, 2, 1)
	add(t, w, h, "e", "scene", "end")
	add(t, w, u, "end")
	set(t, w, h, "e", "e", truth(1))
	wantSaved(t, w, "scene\ne\nend\nscene\ne e=t\ne\nend\nend\n", "SC1\x02"+"\x01\x01\x01"+"\x07\x01\x00\x01")
}

// TestWritingChangesNothing: nor does it hang on anything but the scene.
func TestWritingChangesNothing(t *testing.T) {
	d := drawer(3)
	w, m := begin(t), newModel()
	for range 300 {
		step(t, &d, w, m)
	}
	text, pack := w.Save(), w.Pack()
	for range 100 {
		wantSaved(t, w, text, pack)
	}
	wantModel(t, w, m)
	var all sync.WaitGroup
	for range 8 {
		other := begin(t)
		all.Go(func() { wantSaved(t, other, "scene\nend\n", "SC1\x00") })
	}
	all.Wait()
	wantSaved(t, w, text, pack)
}

// TestOneSceneOfTwoCourses: what was ahead of it isn't seen in what is written.
func TestOneSceneOfTwoCourses(t *testing.T) {
	a, b := begin(t), begin(t)
	for range 40 {
		h, _ := b.Spawn()
		despawn(t, b, h)
	}
	for _, c := range []struct {
		w     *World
		comps []string
	}{{a, []string{"pos", "link"}}, {b, []string{"link", "mark", "pos"}}} {
		h, _ := c.w.Spawn()
		u, _ := c.w.Spawn()
		add(t, c.w, u, c.comps...)
		set(t, c.w, u, "link", "to", ref(h))
		set(t, c.w, u, "pos", "y", num(4))
	}
	u := api.Handle{Place: 15, Life: 1}
	want(t, "Remove", b.Remove(u, "mark"), api.OK)
	set(t, b, u, "link", "next", ref(u))
	set(t, b, u, "link", "next", ref(api.Handle{}))
	text, pack := "scene\ne\ne\npos x=0 y=4\nlink to=@0 next=-\nend\n", "SC1\x02"+"\x00\x01\x00"+"\x05\x01\x01\x00\x08\x01\x00"
	wantSaved(t, a, text, pack)
	wantSaved(t, b, text, pack)
}

func TestNoWorldIsWrittenAsAnEmptyOne(t *testing.T) {
	var w *World
	wantSaved(t, w, "scene\nend\n", "SC1\x00")
}
