package scene

import (
	"strconv"
	"strings"

	"scenes/api"
	"scenes/layout"
)

// FromText: the scene, of this layout, of which this is the Text, byte for
// byte; false, if there is none.
func FromText(text string, l layout.Layout) (Scene, bool) {
	return attempt(func() Scene { return readText(text, l) })
}

// readText takes off the end first: a component may be named end, and only the
// last line of that name is none of its lines.
func readText(text string, l layout.Layout) Scene {
	body, begun := strings.CutPrefix(text, "scene\n")
	body, ended := strings.CutSuffix(body, "end\n")
	need(begun && ended)
	r := &textReader{reader{body}}
	var s Scene
	for r.rest != "" {
		need(len(s) < api.MaxEntities)
		s = append(s, r.entity(l))
	}
	need(s.closed())
	return s
}

// closed: does each reference refer to one of the scene? A text tells how many
// they are only by its end.
func (s Scene) closed() bool {
	for _, e := range s {
		for _, values := range e.Values {
			for _, v := range values {
				if v.Kind == api.Ref && v.N > len(s) {
					return false
				}
			}
		}
	}
	return true
}

type textReader struct{ reader }

// entity asks for each component just once, in the schema's order: a line that
// comes twice, or too late, is left over.
func (r *textReader) entity(l layout.Layout) Entity {
	r.skip("e\n")
	var e Entity
	for k, c := range l {
		if strings.HasPrefix(r.rest, opening(c)) {
			e.Comps = e.Comps.With(k)
			e.Values[k] = r.line(c)
		}
	}
	return e
}

// opening: what none but a line of the component begins with. The name alone
// would not do: others may begin with it, and e is an entity's line too.
func opening(c layout.Comp) string {
	if len(c.Fields) == 0 {
		return c.Name + "\n"
	}
	return c.Name + " "
}

func (r *textReader) line(c layout.Comp) []api.Value {
	r.skip(c.Name)
	var values []api.Value
	for _, f := range c.Fields {
		r.skip(" " + f.Name + "=")
		values = append(values, r.value(f.Kind))
	}
	r.skip("\n")
	return values
}

func (r *textReader) value(kind api.Kind) api.Value {
	v := api.Value{Kind: kind}
	switch kind {
	case api.Int:
		v.N = r.decimal()
	case api.Bool:
		v.N = r.truth()
	case api.Text:
		v.S = r.quoted()
	case api.Ref:
		v.N = r.ref()
	default: // api.List: there is no sixth kind.
		v.L = r.list()
	}
	return v
}

// decimal holds what it read against how it is written: so no other way to
// write it is taken.
func (r *textReader) decimal() int {
	behind := strings.TrimLeft(r.rest, "-0123456789")
	word := r.take(len(r.rest) - len(behind))
	n, err := strconv.Atoi(word)
	need(err == nil && strconv.Itoa(n) == word)
	return n
}

func (r *textReader) truth() int {
	if r.took("t") {
		return 1
	}
	r.skip("f")
	return 0
}

func (r *textReader) quoted() string {
	r.skip(`"`)
	var s []byte
	for !r.took(`"`) {
		need(len(s) < api.MaxText)
		s = append(s, r.quotedByte())
	}
	return string(s)
}

// quotedByte: one of a text, which is written plainly just if it may be.
func (r *textReader) quotedByte() byte {
	if r.took(`\x`) {
		high, low := r.digit(), r.digit()
		b := high<<4 | low
		need(!plain(b))
		return b
	}
	b := r.next()
	need(plain(b))
	return b
}

func (r *textReader) digit() byte {
	value := strings.IndexByte(digits, r.next())
	need(value >= 0)
	return byte(value)
}

// ref looks at the number ahead of adding to it: the greatest have none behind
// them.
func (r *textReader) ref() int {
	if r.took("-") {
		return 0
	}
	r.skip("@")
	number := r.decimal()
	need(0 <= number && number < api.MaxEntities)
	return number + 1
}

func (r *textReader) list() []int {
	r.skip("[")
	var l []int
	for !r.took("]") {
		need(len(l) < api.MaxList)
		if len(l) > 0 {
			r.skip(",")
		}
		l = append(l, r.decimal())
	}
	return l
}
