package scene

import (
	"scenes/api"
	"scenes/layout"
)

// Bytes: the scene, of this layout, packed.
func (s Scene) Bytes(l layout.Layout) string {
	pack := appendCount([]byte("SC1"), len(s))
	// Every set that there may be is asked for, so that the blocks come by
	// their sums, rising.
	for comps := range layout.Set(1) << len(l) {
		if who := s.whoHas(comps); len(who) > 0 {
			pack = s.appendBlock(pack, l, comps, who)
		}
	}
	return string(pack)
}

// whoHas: the numbers of the entities that have just these components, rising.
func (s Scene) whoHas(comps layout.Set) []int {
	var who []int
	for number, e := range s {
		if e.Comps == comps {
			who = append(who, number)
		}
	}
	return who
}

func (s Scene) appendBlock(pack []byte, l layout.Layout, comps layout.Set, who []int) []byte {
	pack = appendCount(pack, int(comps))
	pack = appendCount(pack, len(who))
	pack = appendGaps(pack, who)
	for k, c := range l {
		if comps.Has(k) {
			pack = s.appendColumns(pack, k, len(c.Fields), who)
		}
	}
	return pack
}

// appendGaps tells numbers that rise, each by how far it lies behind the next
// one that could be.
func appendGaps(pack []byte, who []int) []byte {
	next := 0
	for _, number := range who {
		pack = appendCount(pack, number-next)
		next = number + 1
	}
	return pack
}

// appendColumns: of a component the fields' values, those of each field
// together.
func (s Scene) appendColumns(pack []byte, comp, fields int, who []int) []byte {
	for f := range fields {
		for _, number := range who {
			pack = appendPacked(pack, s[number].Values[comp][f])
		}
	}
	return pack
}

func appendPacked(pack []byte, v api.Value) []byte {
	switch v.Kind {
	case api.Int:
		return appendNumber(pack, v.N)
	case api.Bool, api.Ref:
		return appendCount(pack, v.N)
	case api.Text:
		return append(appendCount(pack, len(v.S)), v.S...)
	default: // api.List: there is no sixth kind.
		pack = appendCount(pack, len(v.L))
		for _, n := range v.L {
			pack = appendNumber(pack, n)
		}
		return pack
	}
}

// appendNumber: the numbers below 0 take the odd counts, those from 0 on the
// even ones. Unsigned, since the greatest of them are beyond an int.
func appendNumber(pack []byte, n int) []byte {
	if n < 0 {
		// -2n - 1, without a step beyond the bounds.
		return appendSevens(pack, 2*uint64(-(n+1))+1)
	}
	return appendSevens(pack, 2*uint64(n))
}

func appendCount(pack []byte, count int) []byte {
	return appendSevens(pack, uint64(count))
}

// appendSevens writes seven bits a byte, the lowest first.
func appendSevens(pack []byte, count uint64) []byte {
	for count >= 128 {
		pack = append(pack, byte(count%128+128))
		count /= 128
	}
	return append(pack, byte(count))
}
