package layout

import (
	"reflect"
	"regexp"
	"strings"
	"testing"

	"scenes/api"
)

const example = "pos x:int y:int\nname s:text\nlink to:ref next:ref\nflag on:bool\nbag l:list\nmark\n"

// longest is the longest text that is a schema: every bound is reached at once.
func longest() string {
	text := ""
	for _, c := range "abcdef" {
		text += "compone" + string(c)
		for _, f := range "abcd" {
			text += " fieldfo" + string(f) + ":list"
		}
		text += "\n"
	}
	return text
}

func TestReadTellsComponentsAndFields(t *testing.T) {
	want := Layout{
		{"pos", []Field{{"x", api.Int}, {"y", api.Int}}},
		{"name", []Field{{"s", api.Text}}},
		{"link", []Field{{"to", api.Ref}, {"next", api.Ref}}},
		{"flag", []Field{{"on", api.Bool}}},
		{"bag", []Field{{"l", api.List}}},
		{"mark", nil},
	}
	got, ok := Read(example)
	if !ok || !reflect.DeepEqual(got, want) {
		t.Errorf("Read(example) = %v, %v, want %v", got, ok, want)
	}
}

func TestFind(t *testing.T) {
	l, _ := Read(example)
	for k, name := range []string{"pos", "name", "link", "flag", "bag", "mark"} {
		if l.Find(name) != k {
			t.Errorf("component %s: %d, want %d", name, l.Find(name), k)
		}
	}
	if l[2].Find("to") != 0 || l[2].Find("next") != 1 {
		t.Errorf("fields of link: %d, %d", l[2].Find("to"), l[2].Find("next"))
	}
	for _, name := range []string{"", "x", "po", "poss", "Pos", "pos ", "pos\n"} {
		if l.Find(name) != -1 {
			t.Errorf("component %q: %d, want -1", name, l.Find(name))
		}
	}
	if l[0].Find("z") != -1 || l[5].Find("x") != -1 {
		t.Error("a field that is none is found")
	}
}

func TestSchemas(t *testing.T) {
	for _, text := range []string{
		"a\n", "z\n", "abcdefgh\n", "a abcdefgh:int\n", "a a:int\n", "a b:int\nb a:int\n",
		"a x:int\nb x:text\n", "a b:int c:bool d:text e:ref\n", "a b:list\n",
		"a\nb\nc\nd\nf\ng\n", "e e:int\n", "ee\n", "a e:int\n", "end\n", "scene\n", "int int:int\n",
		example, longest(),
	} {
		if l, ok := Read(text); !ok || len(l) != strings.Count(text, "\n") {
			t.Errorf("Read(%q) = %v, %v, but it is a schema", text, l, ok)
		}
	}
}

func TestNoSchemas(t *testing.T) {
	for _, text := range []string{
		// lines
		"", "\n", "\n\n", "a", "a\nb", "a\n\n", "\na\n", "a\n\nb\n", "a\r\n", "a\n ", "a\x00\n",
		// how many
		"a\nb\nc\nd\nf\ng\nh\n", "a b:int c:int d:int e:int f:int\n",
		// blanks
		" \n", " a\n", "a \n", "a  b:int\n", "a b:int \n", "a b :int\n", "a b: int\n", "a\tb:int\n", "a b:int  c:int\n",
		// names
		"abcdefghi\n", "a abcdefghi:int\n", "A\n", "aB\n", "a1\n", "a_\n", "a`\n", "a{\n", "\xe4\n", "ä\n", "a B:int\n", "a :int\n", "a b1:int\n",
		// the same name twice
		"a\na\n", "a\nb\na\n", "a x:int\na y:int\n", "a b:int b:int\n", "a b:int c:int b:text\n",
		// kinds
		"a b\n", "a b:\n", "a b:Int\n", "a b:in\n", "a b:ints\n", "a b:lists\n", "a b:int:int\n", "a b::int\n", "a b:1\n", "a b:float\n", "a:int\n", ":\n", "a :\n", "a b=int\n",
		// a component e has fields
		"e\n", "a\ne\n", "e\na\n",
		// far too long
		longest() + longest(), strings.Repeat("a", 1<<20), strings.Repeat("a\n", 1<<20), "a" + strings.Repeat(" ", 398) + "\n", strings.Repeat("\n", 401),
	} {
		if l, ok := Read(text); ok || l != nil {
			t.Errorf("Read(%.60q) = %v, %v, but it is no schema", text, l, ok)
		}
	}
}

var schemaLines = regexp.MustCompile(`\A([a-z]{1,8}( [a-z]{1,8}:(int|bool|text|ref|list)){0,4}\n){1,6}\z`)

// isSchema says it in another way than the reader does: by a pattern, and
// then by the names alone.
func isSchema(text string) bool {
	if !schemaLines.MatchString(text) {
		return false
	}
	comps := map[string]int{}
	for line := range strings.Lines(text) {
		words := strings.Fields(line)
		fields := map[string]int{}
		for _, word := range words[1:] {
			fields[word[:strings.Index(word, ":")]]++
		}
		comps[words[0]]++
		if len(fields) != len(words)-1 || comps[words[0]] > 1 || line == "e\n" {
			return false
		}
	}
	return true
}

func checkRead(t *testing.T, text string) bool {
	t.Helper()
	l, ok := Read(text)
	if ok != isSchema(text) {
		t.Fatalf("Read(%q) = %v, %v", text, l, ok)
	}
	if ok && written(l) != text {
		t.Fatalf("Read(%q) = %v, which is written %q", text, l, written(l))
	}
	return ok
}

func written(l Layout) string {
	names := []string{api.Int: "int", api.Bool: "bool", api.Text: "text", api.Ref: "ref", api.List: "list"}
	text := ""
	for _, c := range l {
		text += c.Name
		for _, f := range c.Fields {
			text += " " + f.Name + ":" + names[f.Kind]
		}
		text += "\n"
	}
	return text
}

func TestEveryShortText(t *testing.T) {
	pieces := []string{"a", "e", " ", ":", "int", "ref", "\n"}
	schemas := 0
	var grow func(text string, more int)
	grow = func(text string, more int) {
		if checkRead(t, text) {
			schemas++
		}
		if more == 0 {
			return
		}
		for _, p := range pieces {
			grow(text+p, more-1)
		}
	}
	grow("", 6)
	if schemas < 100 {
		t.Errorf("only %d schemas were among them", schemas)
	}
}

func TestEveryTextThatIsNearlyASchema(t *testing.T) {
	for _, base := range []string{example, longest(), "e a:ref\n", "a\nb\nc\nd\nf\ng\n"} {
		checkRead(t, base)
		for i := 0; i <= len(base); i++ {
			checkRead(t, base[:i])
			checkRead(t, base[i:])
			for _, c := range []byte("aest:A0 \n\r\t\x00`{\x80\xff") {
				checkRead(t, base[:i]+string([]byte{c})+base[i:])
				if i < len(base) {
					checkRead(t, base[:i]+string([]byte{c})+base[i+1:])
				}
			}
			if i < len(base) {
				checkRead(t, base[:i]+base[i+1:])
			}
		}
	}
}
