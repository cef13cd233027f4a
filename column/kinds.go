package column

import (
	"strings"

	"scenes/api"
)

type ints struct{ rows[int] }

func (c *ints) Get(row int) api.Value {
	return api.Value{Kind: api.Int, N: c.cells[row]}
}

func (c *ints) Set(row int, v api.Value) {
	c.cells[row] = v.N
}

type bools struct{ rows[bool] }

func (c *bools) Get(row int) api.Value {
	v := api.Value{Kind: api.Bool}
	if c.cells[row] {
		v.N = 1
	}
	return v
}

func (c *bools) Set(row int, v api.Value) {
	c.cells[row] = v.N == 1
}

type texts struct{ rows[string] }

func (c *texts) Get(row int) api.Value {
	return api.Value{Kind: api.Text, S: c.cells[row]}
}

// Set copies the text: it may be a piece of a far longer one, and would keep
// all of it.
func (c *texts) Set(row int, v api.Value) {
	c.cells[row] = strings.Clone(v.S)
}

type refs struct{ rows[api.Handle] }

func (c *refs) Get(row int) api.Value {
	return api.Value{Kind: api.Ref, H: c.cells[row]}
}

func (c *refs) Set(row int, v api.Value) {
	c.cells[row] = v.H
}

func (c *refs) Forget(h api.Handle) {
	for row, to := range c.cells {
		if to == h {
			c.cells[row] = api.Handle{}
		}
	}
}

type lists struct{ rows[[]int] }

func (c *lists) Get(row int) api.Value {
	return api.Value{Kind: api.List, L: fresh(c.cells[row])}
}

func (c *lists) Set(row int, v api.Value) {
	c.cells[row] = fresh(v.L)
}

// fresh copies a list into memory of its own. slices.Clone would not do: of an
// empty list it hands back the very memory that the list lies in.
func fresh(l []int) []int {
	return append([]int(nil), l...)
}
