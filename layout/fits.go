package layout

import "scenes/api"

// Fits: is the value of the field's kind, and within its bounds? Whether the
// one that it may refer to lives, no field knows.
func (f Field) Fits(v api.Value) bool {
	if v.Kind != f.Kind {
		return false
	}
	switch v.Kind {
	case api.Bool:
		return v.N == 0 || v.N == 1
	case api.Text:
		return len(v.S) <= api.MaxText
	case api.List:
		return len(v.L) <= api.MaxList
	}
	return true
}
