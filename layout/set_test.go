package layout

import (
	"testing"

	"scenes/api"
)

func TestSet(t *testing.T) {
	all := 1 << api.MaxComps
	for n := range all {
		s := Set(n)
		sum := 0
		for k := range api.MaxComps {
			in := n/(1<<k)%2 == 1
			if s.Has(k) != in {
				t.Errorf("%d.Has(%d) = %v", s, k, s.Has(k))
			}
			if in {
				sum += 1 << k
			}
			with, without := s.With(k), s.Without(k)
			for j := range api.MaxComps {
				if with.Has(j) != (j == k || s.Has(j)) || without.Has(j) != (j != k && s.Has(j)) {
					t.Errorf("%d, %d: With %d, Without %d", s, k, with, without)
				}
			}
		}
		if int(s) != sum {
			t.Errorf("%d: its components count %d", s, sum)
		}
	}
}

func TestSetHasAll(t *testing.T) {
	for a := range Set(1 << api.MaxComps) {
		for b := range Set(1 << api.MaxComps) {
			want := true
			for k := range api.MaxComps {
				want = want && (a.Has(k) || !b.Has(k))
			}
			if a.HasAll(b) != want {
				t.Errorf("%d.HasAll(%d) = %v", a, b, !want)
			}
		}
	}
}
