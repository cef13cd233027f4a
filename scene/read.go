package scene

import "strings"

// noScene is what the readers panic with. It has a type of its own, so that
// attempt takes no other panic for a wrong text.
type noScene struct{}

// need leaves the reading, from wherever it is, if something does not hold.
func need(holds bool) {
	if !holds {
		panic(noScene{})
	}
}

// attempt: the scene that is read; false, if the reading was left.
func attempt(read func() Scene) (s Scene, ok bool) {
	defer func() {
		if r := recover(); r != nil {
			if _, wrong := r.(noScene); !wrong {
				panic(r)
			}
			s, ok = nil, false
		}
	}()
	return read(), true
}

// reader is what the readers of texts and of bytes have in common.
type reader struct {
	rest string // what is not read yet
}

// took: is this what comes next? If so, it is read.
func (r *reader) took(word string) bool {
	rest, ok := strings.CutPrefix(r.rest, word)
	r.rest = rest
	return ok
}

// skip reads what must come next.
func (r *reader) skip(word string) {
	need(r.took(word))
}

// take: the next bytes, so many.
func (r *reader) take(many int) string {
	need(many <= len(r.rest))
	word := r.rest[:many]
	r.rest = r.rest[many:]
	return word
}

// next: the next byte.
func (r *reader) next() byte {
	return r.take(1)[0]
}
