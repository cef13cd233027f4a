package layout

import (
	"strings"

	"scenes/api"
)

// entityWord opens an entity in the text of a scene: a component of that name
// and without fields would be written by the very same line.
const entityWord = "e"

// noSchema is what the reader panics with. It has a type of its own, so that
// Read takes no other panic for a wrong text.
type noSchema struct{}

// Read: the layout that a schema tells; false, if the text is no schema.
func Read(text string) (l Layout, ok bool) {
	defer func() {
		if r := recover(); r != nil {
			if _, wrong := r.(noSchema); !wrong {
				panic(r)
			}
			l, ok = nil, false
		}
	}()
	return readLayout(text), true
}

// need leaves the reading, from wherever it is, if something does not hold.
func need(holds bool) {
	if !holds {
		panic(noSchema{})
	}
}

func readLayout(text string) Layout {
	need(len(text) <= api.MaxSchema)
	body, ended := strings.CutSuffix(text, "\n")
	need(ended)
	lines := strings.Split(body, "\n")
	need(len(lines) <= api.MaxComps)
	l := make(Layout, 0, len(lines))
	for _, line := range lines {
		c := readComp(line)
		need(l.Find(c.Name) < 0)
		l = append(l, c)
	}
	return l
}

func readComp(line string) Comp {
	words := strings.Split(line, " ")
	need(len(words) <= 1+api.MaxFields)
	c := Comp{Name: readName(words[0])}
	for _, word := range words[1:] {
		f := readField(word)
		need(c.Find(f.Name) < 0)
		c.Fields = append(c.Fields, f)
	}
	need(c.Name != entityWord || len(c.Fields) > 0)
	return c
}

func readField(word string) Field {
	// Where the ':' lacks the kind is empty, and so is none.
	name, kind, _ := strings.Cut(word, ":")
	return Field{Name: readName(name), Kind: readKind(kind)}
}

// readName copies the name: as a piece of the text it would keep all of it.
func readName(name string) string {
	need(1 <= len(name) && len(name) <= api.MaxName)
	for i := range len(name) {
		need('a' <= name[i] && name[i] <= 'z')
	}
	return strings.Clone(name)
}

func readKind(kind string) api.Kind {
	switch kind {
	case "int":
		return api.Int
	case "bool":
		return api.Bool
	case "text":
		return api.Text
	case "ref":
		return api.Ref
	case "list":
		return api.List
	}
	panic(noSchema{})
}
