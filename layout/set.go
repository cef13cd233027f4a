package layout

// Set: of components of a layout. The k-th of them, from 0, counts 2 to the k.
type Set uint

// Has: is the k-th component among them?
func (s Set) Has(k int) bool {
	return s&(1<<k) != 0
}

// With: these, and the k-th component.
func (s Set) With(k int) Set {
	return s | 1<<k
}

// Without: these, but for the k-th component.
func (s Set) Without(k int) Set {
	return s &^ (1 << k)
}

// HasAll: are all the others among them?
func (s Set) HasAll(others Set) bool {
	return s&others == others
}
