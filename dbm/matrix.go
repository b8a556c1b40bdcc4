package dbm

import (
	"iter"

	"rallentando/api"
	"rallentando/bound"
)

// itself is at most 0, the least bound that a clock less itself keeps.
const itself api.Bound = 1

// matrix is one under way, that may be.
type matrix struct {
	api.Dbm
}

// pairs are those of all clocks, each with itself too, row by row.
func (m matrix) pairs() iter.Seq2[int, int] {
	return func(yield func(i, j int) bool) {
		for place := range m.Bounds {
			if !yield(place/m.Clocks, place%m.Clocks) {
				return
			}
		}
	}
}

// at is where the bound of clock i less clock j stands.
func (m matrix) at(i, j int) *api.Bound {
	return &m.Bounds[i*m.Clocks+j]
}

// lower puts a bound, if it is kept by fewer than the one that stands there.
func (m matrix) lower(i, j int, b api.Bound) {
	*m.at(i, j) = min(*m.at(i, j), b)
}

// over puts what follows of the ways over a clock, whose bound of itself is at most 0: so none of the bounds to and from it changes meanwhile.
func (m matrix) over(k int) {
	for i, j := range m.pairs() {
		// No error is left to tell: each bound is a way over at most three, and twice 3 times MaxConst is below MaxNum.
		sum, _ := bound.Add(*m.at(i, k), *m.at(k, j))
		m.lower(i, j, sum)
	}
}

// empty tells whether some clock would have to be before itself.
func (m matrix) empty() bool {
	for i := range m.Clocks {
		if *m.at(i, i) < itself {
			return true
		}
	}
	return false
}
