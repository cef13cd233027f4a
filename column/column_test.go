package column

import (
	"math"
	"slices"
	"testing"

	"scenes/api"
)

// same: are they the same value? (An empty list may be nil or not.)
func same(a, b api.Value) bool {
	return a.Kind == b.Kind && a.N == b.N && a.S == b.S && a.H == b.H && slices.Equal(a.L, b.L)
}

// samples: of each kind, with nothing in them that does not belong to it; the
// first value of the kind is the first of them.
func samples() [][]api.Value {
	return [][]api.Value{
		{{Kind: api.Int}, {Kind: api.Int, N: 1}, {Kind: api.Int, N: math.MinInt}, {Kind: api.Int, N: math.MaxInt}},
		{{Kind: api.Bool}, {Kind: api.Bool, N: 1}},
		{{Kind: api.Text}, {Kind: api.Text, S: "a"}, {Kind: api.Text, S: "\x00\xff\n\" 123456\\"}},
		{{Kind: api.Ref}, {Kind: api.Ref, H: api.Handle{Place: 1, Life: 1}}, {Kind: api.Ref, H: api.Handle{Place: 20, Life: 3}}},
		{{Kind: api.List}, {Kind: api.List, L: []int{0}}, {Kind: api.List, L: []int{1, -2, math.MinInt, math.MaxInt}}},
	}
}

// cluttered: the value, with all that does not belong to its kind.
func cluttered(v api.Value) api.Value {
	if v.Kind != api.Int && v.Kind != api.Bool {
		v.N = 77
	}
	if v.Kind != api.Text {
		v.S = "clutter"
	}
	if v.Kind != api.Ref {
		v.H = api.Handle{Place: 7, Life: 7}
	}
	if v.Kind != api.List {
		v.L = []int{7, 7, 7}
	}
	return v
}

func wantRows(t *testing.T, c Column, want []api.Value) {
	t.Helper()
	for row, v := range want {
		if got := c.Get(row); !same(got, v) {
			t.Fatalf("row %d: %v, want %v", row, got, v)
		}
	}
}

func TestRowsComeAndGo(t *testing.T) {
	for _, l := range samples() {
		c := New(l[0].Kind)
		var want []api.Value
		for step := range 40 {
			row := step * 7 % (len(want) + 1)
			c.Insert(row)
			want = slices.Insert(want, row, l[0])
			wantRows(t, c, want)
			row = step * 5 % len(want)
			v := l[step%len(l)]
			c.Set(row, cluttered(v))
			want[row] = v
			wantRows(t, c, want)
			if step%3 == 2 {
				row = step * 11 % len(want)
				c.Delete(row)
				want = slices.Delete(want, row, row+1)
				wantRows(t, c, want)
			}
		}
	}
}

func TestRowIsNewWhereOneWas(t *testing.T) {
	for _, l := range samples() {
		c := New(l[0].Kind)
		for _, v := range l {
			c.Insert(0)
			wantRows(t, c, l[:1])
			c.Set(0, v)
			c.Delete(0)
		}
	}
}

func TestForget(t *testing.T) {
	a, b := api.Handle{Place: 1, Life: 2}, api.Handle{Place: 2, Life: 1}
	c := New(api.Ref)
	handles := []api.Handle{a, b, {}, a, {Place: 1, Life: 1}, {Place: 1, Life: 3}, b, a}
	var want []api.Value
	for row, h := range handles {
		c.Insert(row)
		c.Set(row, api.Value{Kind: api.Ref, H: h})
		if h == a {
			h = api.Handle{}
		}
		want = append(want, api.Value{Kind: api.Ref, H: h})
	}
	c.Forget(a)
	wantRows(t, c, want)
	c.Forget(api.Handle{})
	wantRows(t, c, want)
}

func TestOthersForgetNothing(t *testing.T) {
	for _, l := range samples() {
		if l[0].Kind == api.Ref {
			continue
		}
		c := New(l[0].Kind)
		for row, v := range l {
			c.Insert(row)
			c.Set(row, cluttered(v))
		}
		c.Forget(api.Handle{Place: 7, Life: 7})
		c.Forget(api.Handle{})
		wantRows(t, c, l)
	}
}

func TestListsAreTheirOwn(t *testing.T) {
	c := New(api.List)
	c.Insert(0)
	c.Insert(1)
	in := []int{1, 2, 3, 4}
	c.Set(0, api.Value{Kind: api.List, L: in[:2]})
	c.Set(1, c.Get(0))
	want := []api.Value{{Kind: api.List, L: []int{1, 2}}, {Kind: api.List, L: []int{1, 2}}}
	in[0], in[1] = 9, 9
	wantRows(t, c, want)
	a, b := c.Get(0), c.Get(0)
	for _, out := range [][]int{a.L[:cap(a.L)], c.Get(1).L} {
		for k := range out {
			out[k] = 8
		}
	}
	wantRows(t, c, want)
	if !slices.Equal(b.L, []int{1, 2}) {
		t.Errorf("what is written into one answer shows in another: %v", b.L)
	}
	if !slices.Equal(in, []int{9, 9, 3, 4}) {
		t.Errorf("the list that was handed in: %v", in)
	}
}
