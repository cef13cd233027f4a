package scene

import (
	"regexp"
	"strconv"
	"strings"
	"testing"

	"scenes/api"
	"scenes/layout"
)

// patternOf says which texts are scenes of the layout in another way than the
// reader does. What it leaves open isText asks.
func patternOf(l layout.Layout) *regexp.Regexp {
	const number = `(0|-?[1-9][0-9]*)`
	values := []string{
		api.Int:  number,
		api.Bool: `[tf]`,
		api.Text: `"([!#-\[\]-~]|\\x([01][0-9a-f]|2[02]|5c|7f|[89a-f][0-9a-f])){0,12}"`,
		api.Ref:  `(-|@(0|[1-9][0-9]*))`,
		api.List: `\[(` + number + `(,` + number + `){0,3})?\]`,
	}
	pattern := `\Ascene\n(e\n`
	for _, c := range l {
		pattern += "(" + c.Name
		for _, f := range c.Fields {
			pattern += " " + f.Name + "=" + values[f.Kind]
		}
		pattern += `\n)?`
	}
	return regexp.MustCompile(pattern + `){0,20}end\n\z`)
}

var (
	entityLines = regexp.MustCompile(`(?m)^e$`)
	refs        = regexp.MustCompile(`=@([0-9]+)[ \n]`)
	numbers     = regexp.MustCompile(`[=\[,](-?[0-9]+)`)
)

func isText(pattern *regexp.Regexp, text string) bool {
	if !pattern.MatchString(text) {
		return false
	}
	entities := len(entityLines.FindAllString(text, -1))
	for _, ref := range refs.FindAllStringSubmatch(text, -1) {
		if n, err := strconv.Atoi(ref[1]); err != nil || n >= entities {
			return false
		}
	}
	for _, number := range numbers.FindAllStringSubmatch(text, -1) {
		if _, err := strconv.ParseInt(number[1], 10, 64); err != nil {
			return false
		}
	}
	return true
}

// textCheck: of a layout.
type textCheck struct {
	layout  layout.Layout
	pattern *regexp.Regexp
	scenes  int // among the texts so far
}

func newTextCheck(l layout.Layout) *textCheck {
	return &textCheck{layout: l, pattern: patternOf(l)}
}

func (c *textCheck) check(t *testing.T, text string) {
	t.Helper()
	s, ok := FromText(text, c.layout)
	if ok != isText(c.pattern, text) {
		t.Fatalf("FromText(%q) = %v, %v", text, s, ok)
	}
	if !ok && s != nil {
		t.Fatalf("FromText(%q), no scene: %v", text, s)
	}
	if ok {
		c.scenes++
		wantWithin(t, c.layout, s)
		if got := s.Text(c.layout); got != text {
			t.Fatalf("FromText(%q), written again: %q", text, got)
		}
	}
}

// wrongValues: of each kind, what is no value of it.
func wrongValues() map[api.Kind][]string {
	return map[api.Kind][]string{
		api.Int: {"", "-", "--1", "+1", "00", "01", "-0", "-01", "1-", "1-1", "1.0", "1e3", "0x1", "1_0", "a", "t", `"1"`, "@1", "[1]", " 1", "1 ",
			"9223372036854775808", "-9223372036854775809", "18446744073709551615", "18446744073709551616", "\xd9\xa1", strings.Repeat("9", 1000), strings.Repeat("-", 1000)},
		api.Bool: {"", "0", "1", "T", "F", "tt", "ft", "true", "false", "-", `"t"`, "t ", " t"},
		api.Text: {"", `"`, `"""`, `a`, `a"`, `"a`, `"a b"`, "\"a\nb\"", "\"a\tb\"", "\"\x00\"", "\"\x7f\"", "\"\xff\"", `"ä"`, `"\"`, `"\""`, `"\\"`, `"\n"`, `"\x"`, `"\x2"`,
			`"\x41"`, `"\x21"`, `"\x7e"`, `"\x2G"`, `"\xAB"`, `"\xaB"`, `"\xg0"`, `"\X20"`, `"\20"`, `"\u0020"`, `"\x 0"`, `"\x-1"`, `"abcdefghijklm"`,
			`"` + strings.Repeat(`\x20`, 13) + `"`, `"` + strings.Repeat("a", 1000) + `"`, `""a`, `"a""b"`, `'a'`},
		api.Ref: {"", "@", "@-1", "@-0", "@00", "@01", "@+1", "0", "1", "--", "-1", "-@0", "@@0", "@1", "@2", "@19", "@20", "@21", "@0 ", "@a", "@9223372036854775806",
			"@9223372036854775807", "@9223372036854775808", "@18446744073709551615", "@18446744073709551616", "@-9223372036854775808", "@\n"},
		api.List: {"", "[", "]", "1", "[1", "1]", "[,]", "[1,]", "[,1]", "[1,,2]", "[1 2]", "[1, 2]", "[ ]", "[ 1]", "[1;2]", "[01]", "[-0]", "[+1]", "[-]", "[--1]", "[1,2,3,4,5]",
			"[1,2,3,4,]", "[" + strings.Repeat("1,", 1000) + "1]", "[[1]]", "[]]", "[][]", "{1}", "(1)", "[9223372036854775808]", "[1,-9223372036854775809]", "-", `["1"]`},
	}
}

func TestWrongValues(t *testing.T) {
	for kind, values := range wrongValues() {
		c := newTextCheck(ofOne(kind))
		for _, v := range values {
			c.check(t, "scene\ne\nc f="+v+"\nend\n")
		}
		if c.scenes > 0 {
			t.Errorf("kind %d: %d of them are taken", kind, c.scenes)
		}
	}
}

// TestValuesOfOtherKinds: none is taken for one of another kind.
func TestValuesOfOtherKinds(t *testing.T) {
	told := []string{api.Int: "7", api.Bool: "t", api.Text: `"a"`, api.Ref: "@0", api.List: "[7]"}
	for kind := api.Int; kind <= api.List; kind++ {
		for other := api.Int; other <= api.List; other++ {
			text := "scene\ne\nc f=" + told[other] + "\nend\n"
			if _, ok := FromText(text, ofOne(kind)); ok != (kind == other) {
				t.Errorf("FromText(%q), kind %d: %v", text, kind, ok)
			}
		}
	}
}

func TestWrongLines(t *testing.T) {
	c := newTextCheck(example)
	for _, text := range []string{
		"", "\n", "scene", "scene\n", "scene\nend", "scene\nend\n\n", "\nscene\nend\n", "scene\n\nend\n", "end\n", "scene\r\nend\r\n", "Scene\nend\n", "scene\nEnd\n", " scene\nend\n",
		"scene \nend\n", "scene\nend \n", "scene\nend\nend\n", "scene\nscene\nend\n", "scene\nend\nscene\nend\n", "scene\nend\nx", "sceneend\n", "scene\nxend\n", "SC1\x00", "\xef\xbb\xbfscene\nend\n",
		"scene\ne\nend\nend\n", "scene\ne\nend\ne\n", "scene\nend\ne\n", "scene\neend\n", "scene\ne\n\nend\n", "scene\ne \nend\n", "scene\nE\nend\n", "scene\ne\nend\x00\n", "scene\nee\nend\n",
		"scene\nmark\nend\n", "scene\nmark\ne\nend\n", "scene\ne\nmarkend\n", "scene\ne\nmark\nmark\nend\n", "scene\ne\nmarks\nend\n", "scene\ne\nmar\nend\n", "scene\ne\nmark \nend\n",
		"scene\ne\nmark x=1\nend\n", "scene\ne\nmark\npos x=0 y=0\nend\n", "scene\ne\nlink to=-\nmark\nend\n", "scene\ne\nnone\nend\n", "scene\ne\nMark\nend\n", "scene\ne\n mark\nend\n",
		"scene\ne\npos\nend\n", "scene\ne\npos \nend\n", "scene\ne\npos x=0\nend\n", "scene\ne\npos x=0 \nend\n", "scene\ne\npos y=0\nend\n", "scene\ne\npos y=0 x=0\nend\n", "scene\ne\npos x=0 y=0 z=0\nend\n",
		"scene\ne\npos x=0 y=0 \nend\n", "scene\ne\npos  x=0 y=0\nend\n", "scene\ne\npos x=0  y=0\nend\n", "scene\ne\npos x=0y=0\nend\n", "scene\ne\npos x=0\ty=0\nend\n", "scene\ne\npos x =0 y=0\nend\n",
		"scene\ne\npos x= 0 y=0\nend\n", "scene\ne\npos x:0 y=0\nend\n", "scene\ne\npos x=0 x=0\nend\n", "scene\ne\npos x=0 y=0end\n", "scene\ne\npos x=0 y=0\r\nend\n", "scene\ne\nposx=0 y=0\nend\n",
		"scene\ne\npos xx=0 y=0\nend\n", "scene\ne\npos x=0 y=0\npos x=0 y=0\nend\n", "scene\ne\npos x=0 y=0\nend",
		"scene\n" + strings.Repeat("e\n", 21) + "end\n", "scene\n" + strings.Repeat("e\n", 1<<16) + "end\n", strings.Repeat("scene\n", 1<<16), strings.Repeat("e", 1<<20),
	} {
		c.check(t, text)
	}
	if c.scenes > 0 {
		t.Errorf("%d of them are taken", c.scenes)
	}
}

// TestReferencesWithin: the number of one of the scene, whichever comes first.
func TestReferencesWithin(t *testing.T) {
	l := ofOne(api.Ref)
	for entities := range api.MaxEntities + 1 {
		for who := range entities {
			for to := range api.MaxEntities + 2 {
				lines := make([]string, entities)
				lines[who] = "c f=@" + strconv.Itoa(to) + "\n"
				text := "scene\ne\n" + strings.Join(lines, "e\n") + "end\n"
				if _, ok := FromText(text, l); ok != (to < entities) {
					t.Errorf("FromText(%q): %v", text, ok)
				}
			}
		}
	}
}

// bytesToTry: in place of others, or beside them.
const bytesToTry = "aexlt01f9-@\"\\[],= \n\r\t\x00\x7f\x80\xff"

// TestEveryTextThatIsNearlyAScene: a byte, a line or a piece is another, is
// missing, or comes twice.
func TestEveryTextThatIsNearlyAScene(t *testing.T) {
	for _, base := range []struct {
		layout layout.Layout
		scene  Scene
	}{{example, some()}, {named(), someNamed()}} {
		c := newTextCheck(base.layout)
		text := base.scene.Text(base.layout)
		c.check(t, text)
		for i := range len(text) + 1 {
			c.check(t, text[:i])
			c.check(t, text[i:])
			for _, b := range []byte(bytesToTry) {
				c.check(t, text[:i]+string([]byte{b})+text[i:])
				if i < len(text) {
					c.check(t, text[:i]+string([]byte{b})+text[i+1:])
				}
			}
			for j := i; j <= len(text); j++ {
				c.check(t, text[:i]+text[j:])
			}
		}
		checkLines(t, c, strings.SplitAfter(text, "\n"))
		if c.scenes < 100 {
			t.Errorf("only %d scenes were among them", c.scenes)
		}
	}
}

// checkLines: each pair of lines changes places, or one comes once more behind
// the other.
func checkLines(t *testing.T, c *textCheck, lines []string) {
	t.Helper()
	for i := range lines {
		for j := range lines {
			l := append([]string(nil), lines...)
			l[i], l[j] = l[j], l[i]
			c.check(t, strings.Join(l, ""))
			c.check(t, strings.Join(lines[:i], "")+lines[j]+strings.Join(lines[i:], ""))
		}
	}
}

// TestEveryTextOfFewPieces: of components that are named as lines are.
func TestEveryTextOfFewPieces(t *testing.T) {
	c := newTextCheck(named()[:2])
	pieces := []string{"e\n", "end\n", "e x=", "-", "@0", "@1", "\n", "0"}
	var grow func(text string, more int)
	grow = func(text string, more int) {
		c.check(t, text)
		if more == 0 {
			return
		}
		for _, p := range pieces {
			grow(text+p, more-1)
		}
	}
	grow("scene\n", 6)
	if c.scenes < 30 {
		t.Errorf("only %d scenes were among them", c.scenes)
	}
}
