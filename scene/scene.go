// Package scene: entities told apart from any world, and how they are written
// down and read.
package scene

import (
	"scenes/api"
	"scenes/layout"
)

// Entity: which components it has, and with which values.
type Entity struct {
	Comps layout.Set
	// Values: of each component that it has those of its fields, in order.
	// Outside of a world there are no handles: who a Ref refers to is told by
	// its N, which is 0, if it is none, else the entity's number and 1.
	Values [api.MaxComps][]api.Value
}

// Scene: entities in order, numbered from 0.
type Scene []Entity
