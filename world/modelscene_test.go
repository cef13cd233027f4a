package world

import (
	"encoding/binary"
	"fmt"
	"slices"
	"strings"

	"scenes/api"
)

// number: the entity's, from 0, in the scene of the model.
func (m *model) number(h api.Handle) int {
	all, _ := m.query(nil)
	return slices.Index(all, h)
}

func (m *model) save() string {
	text := "scene\n"
	all, _ := m.query(nil)
	for _, h := range all {
		text += "e\n"
		for _, c := range exampleComps {
			if m.living[h][c] == nil {
				continue
			}
			text += c
			for _, f := range exampleFields {
				if f.comp == c {
					text += " " + f.field + "=" + m.told(m.living[h][c][f.field])
				}
			}
			text += "\n"
		}
	}
	return text + "end\n"
}

func (m *model) told(v api.Value) string {
	switch {
	case v.Kind == api.Int:
		return fmt.Sprint(v.N)
	case v.Kind == api.Bool:
		return []string{"f", "t"}[v.N]
	case v.Kind == api.List:
		return strings.ReplaceAll(fmt.Sprint(v.L), " ", ",")
	case v.Kind == api.Text:
		var s string
		for _, b := range []byte(v.S) {
			if strings.ContainsRune("\"\\", rune(b)) || b <= ' ' || b > '~' {
				s += fmt.Sprintf("\\x%02x", b)
			} else {
				s += string(rune(b))
			}
		}
		return "\"" + s + "\""
	case v.H == (api.Handle{}):
		return "-"
	}
	return fmt.Sprintf("@%d", m.number(v.H))
}

func (m *model) pack() string {
	all, _ := m.query(nil)
	pack := "SC1" + count(len(all))
	for sum := range 1 << len(exampleComps) {
		var who []api.Handle
		var gaps string
		gap := 0
		for _, h := range all {
			if m.sum(h) != sum {
				gap++
				continue
			}
			who = append(who, h)
			gaps += count(gap)
			gap = 0
		}
		if who == nil {
			continue
		}
		pack += count(sum) + count(len(who)) + gaps
		for _, f := range exampleFields {
			for _, h := range who {
				if v, e := m.get(h, f.comp, f.field); e == api.OK {
					pack += m.packed(v)
				}
			}
		}
	}
	return pack
}

// sum: of the entity's components.
func (m *model) sum(h api.Handle) int {
	sum := 0
	for k, c := range exampleComps {
		if m.living[h][c] != nil {
			sum += 1 << k
		}
	}
	return sum
}

func count(n int) string {
	return string(binary.AppendUvarint(nil, uint64(n)))
}

func (m *model) packed(v api.Value) string {
	switch v.Kind {
	case api.Int:
		return string(binary.AppendVarint(nil, int64(v.N)))
	case api.Bool:
		return count(v.N)
	case api.Text:
		return count(len(v.S)) + v.S
	case api.Ref:
		return count(1 + m.number(v.H))
	}
	pack := count(len(v.L))
	for _, n := range v.L {
		pack += string(binary.AppendVarint(nil, int64(n)))
	}
	return pack
}
