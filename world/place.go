package world

import (
	"scenes/api"
	"scenes/layout"
)

// place: where entities live, one after the other.
type place struct {
	begun int        // lives begun, the one that goes on among them
	taken bool       // does the last of them go on?
	comps layout.Set // which components the entity that lives here has
}

// free: may a life begin here?
func (p *place) free() bool {
	return !p.taken && p.begun < api.MaxGen
}

// begin: the number of the life that begins, of an entity that has these
// components.
func (p *place) begin(comps layout.Set) int {
	p.begun++
	p.taken = true
	p.comps = comps
	return p.begun
}

// hosts: does the life of this number go on?
func (p *place) hosts(life int) bool {
	return p.taken && p.begun == life
}

func (p *place) end() {
	p.taken = false
}
