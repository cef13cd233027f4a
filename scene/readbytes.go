package scene

import (
	"math"

	"scenes/api"
	"scenes/layout"
)

// FromBytes: the scene, of this layout, of which these are the Bytes, byte for
// byte; false, if there is none.
func FromBytes(bytes string, l layout.Layout) (Scene, bool) {
	return attempt(func() Scene { return readBytes(bytes, l) })
}

func readBytes(bytes string, l layout.Layout) Scene {
	r := &bytesReader{reader: reader{bytes}}
	r.skip("SC1")
	r.scene = make(Scene, r.count(0, api.MaxEntities))
	// The sums rise: the next one is at least this.
	least := 0
	for left := len(r.scene); left > 0; {
		sum := r.count(least, 1<<len(l)-1)
		least = sum + 1
		left -= r.block(l, layout.Set(sum))
	}
	need(r.rest == "")
	return r.scene
}

type bytesReader struct {
	reader
	scene Scene                 // as far as it is told
	told  [api.MaxEntities]bool // is the entity of this number in a block that is read?
}

// block: how many entities it had.
func (r *bytesReader) block(l layout.Layout, comps layout.Set) int {
	who := r.numbers(r.count(1, len(r.scene)))
	for _, number := range who {
		need(!r.told[number])
		r.told[number] = true
		r.scene[number].Comps = comps
	}
	for k, c := range l {
		if comps.Has(k) {
			r.columns(k, c.Fields, who)
		}
	}
	return len(who)
}

// numbers: so many, of entities, rising: each is told by how far it lies behind
// the next one that could be.
func (r *bytesReader) numbers(many int) []int {
	var who []int
	next := 0
	for range many {
		number := next + r.count(0, len(r.scene)-1-next)
		who = append(who, number)
		next = number + 1
	}
	return who
}

func (r *bytesReader) columns(comp int, fields []layout.Field, who []int) {
	for _, f := range fields {
		for _, number := range who {
			values := &r.scene[number].Values[comp]
			*values = append(*values, r.value(f.Kind))
		}
	}
}

func (r *bytesReader) value(kind api.Kind) api.Value {
	v := api.Value{Kind: kind}
	switch kind {
	case api.Int:
		v.N = r.number()
	case api.Bool:
		v.N = r.count(0, 1)
	case api.Text:
		v.S = r.take(r.count(0, api.MaxText))
	case api.Ref:
		v.N = r.count(0, len(r.scene))
	default: // api.List: there is no sixth kind.
		for range r.count(0, api.MaxList) {
			v.L = append(v.L, r.number())
		}
	}
	return v
}

func (r *bytesReader) number() int {
	count := r.sevens()
	half := int(count / 2)
	if count%2 == 1 {
		return -half - 1
	}
	return half
}

// count: one that is within these bounds.
func (r *bytesReader) count(least, most int) int {
	count := r.sevens()
	need(count <= math.MaxInt)
	need(least <= int(count) && int(count) <= most)
	return int(count)
}

// sevens reads seven bits a byte, the lowest first. Bits that are shifted out
// are beyond what a number has. A last byte of 0 adds nothing: but for the
// first, one less would have done.
func (r *bytesReader) sevens() uint64 {
	var count uint64
	for shift := 0; ; shift += 7 {
		b := r.next()
		bits := uint64(b % 128)
		need(bits<<shift>>shift == bits)
		count |= bits << shift
		if b < 128 {
			need(b > 0 || shift == 0)
			return count
		}
	}
}
