package scene

import (
	"strconv"

	"scenes/api"
	"scenes/layout"
)

// Text: the scene, of this layout, in lines.
func (s Scene) Text(l layout.Layout) string {
	text := []byte("scene\n")
	for _, e := range s {
		text = append(text, "e\n"...)
		text = e.appendLines(text, l)
	}
	return string(append(text, "end\n"...))
}

func (e Entity) appendLines(text []byte, l layout.Layout) []byte {
	for k, c := range l {
		if e.Comps.Has(k) {
			text = appendLine(text, c, e.Values[k])
		}
	}
	return text
}

func appendLine(text []byte, c layout.Comp, values []api.Value) []byte {
	text = append(text, c.Name...)
	for k, f := range c.Fields {
		text = append(text, ' ')
		text = append(text, f.Name...)
		text = append(text, '=')
		text = appendValue(text, values[k])
	}
	return append(text, '\n')
}

func appendValue(text []byte, v api.Value) []byte {
	switch v.Kind {
	case api.Int:
		return appendDecimal(text, v.N)
	case api.Bool:
		return appendBool(text, v.N)
	case api.Text:
		return appendQuoted(text, v.S)
	case api.Ref:
		return appendRef(text, v.N)
	default: // api.List: there is no sixth kind.
		return appendList(text, v.L)
	}
}

func appendDecimal(text []byte, n int) []byte {
	return strconv.AppendInt(text, int64(n), 10)
}

func appendBool(text []byte, n int) []byte {
	if n == 0 {
		return append(text, 'f')
	}
	return append(text, 't')
}

func appendQuoted(text []byte, s string) []byte {
	text = append(text, '"')
	for i := range len(s) {
		text = appendByte(text, s[i])
	}
	return append(text, '"')
}

// digits: of base 16.
const digits = "0123456789abcdef"

// plain: does the byte stand for itself in a text?
func plain(b byte) bool {
	return 33 <= b && b <= 126 && b != '"' && b != '\\'
}

func appendByte(text []byte, b byte) []byte {
	if plain(b) {
		return append(text, b)
	}
	return append(text, '\\', 'x', digits[b>>4], digits[b&15])
}

func appendRef(text []byte, n int) []byte {
	if n == 0 {
		return append(text, '-')
	}
	return appendDecimal(append(text, '@'), n-1)
}

func appendList(text []byte, l []int) []byte {
	text = append(text, '[')
	for k, n := range l {
		if k > 0 {
			text = append(text, ',')
		}
		text = appendDecimal(text, n)
	}
	return append(text, ']')
}
