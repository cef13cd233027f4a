package layout

import (
	"math"
	"strings"
	"testing"

	"scenes/api"
)

func TestFits(t *testing.T) {
	list := func(n int) []int { return make([]int, n) }
	text := func(n int) string { return strings.Repeat("\xff", n) }
	kinds := []api.Kind{api.Int, api.Bool, api.Text, api.Ref, api.List}
	for _, c := range []struct {
		v    api.Value
		want bool // by a field of just its kind
	}{
		{api.Value{Kind: api.Int}, true},
		{api.Value{Kind: api.Int, N: math.MinInt}, true},
		{api.Value{Kind: api.Int, N: math.MaxInt, S: text(13), L: list(5)}, true},
		{api.Value{Kind: api.Bool}, true},
		{api.Value{Kind: api.Bool, N: 1, S: text(13), L: list(5)}, true},
		{api.Value{Kind: api.Bool, N: 2}, false},
		{api.Value{Kind: api.Bool, N: -1}, false},
		{api.Value{Kind: api.Bool, N: math.MinInt}, false},
		{api.Value{Kind: api.Bool, N: 1<<32 + 1}, false},
		{api.Value{Kind: api.Text}, true},
		{api.Value{Kind: api.Text, S: text(12), N: 2, L: list(5)}, true},
		{api.Value{Kind: api.Text, S: text(13)}, false},
		{api.Value{Kind: api.Text, S: text(1 << 16)}, false},
		{api.Value{Kind: api.Text, S: "äöüäöü"}, true},
		{api.Value{Kind: api.Text, S: "äöüäöüa"}, false},
		{api.Value{Kind: api.Ref}, true},
		{api.Value{Kind: api.Ref, H: api.Handle{Place: -1, Life: 99}, N: 2, S: text(13), L: list(5)}, true},
		{api.Value{Kind: api.List}, true},
		{api.Value{Kind: api.List, L: list(0)}, true},
		{api.Value{Kind: api.List, L: list(4), N: 2, S: text(13)}, true},
		{api.Value{Kind: api.List, L: list(5)}, false},
		{api.Value{Kind: api.List, L: list(1 << 16)}, false},
		{api.Value{}, false},
		{api.Value{Kind: 6}, false},
		{api.Value{Kind: -1}, false},
		{api.Value{Kind: math.MaxInt}, false},
	} {
		for _, kind := range kinds {
			want := c.want && kind == c.v.Kind
			if got := (Field{"f", kind}).Fits(c.v); got != want {
				t.Errorf("a field of kind %d: Fits(%.80v) = %v", kind, c.v, got)
			}
		}
	}
}
