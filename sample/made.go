package sample

import "rallentando/api"

// Met is what two zones have in common, by the words: of each place the lesser bound, and what follows.
func Met(a, b api.Zone) (api.Zone, api.Errno) {
	for i := range a {
		a[i] = min(a[i], b[i])
	}
	return Follows(a)
}

// Composed is what two zones come to, by the words: what either says without the time between, and each bound above that time put to each one below it.
func Composed(a, b api.Zone) (api.Zone, api.Errno) {
	// The time between, less 0, t and u; and these less it.
	high := [3]api.Bound{min(a[2], b[0]), a[4], b[5]}
	low := [3]api.Bound{min(a[3], b[1]), a[5], b[4]}
	way := func(i, j int) api.Bound { return Sum(low[i], high[j]) }
	for i := range 3 {
		if way(i, i) < Most(0) {
			return api.Zone{}, api.ErrNone
		}
	}
	return Follows(api.Zone{min(a[0], way(1, 0)), min(a[1], way(0, 1)), min(b[2], way(2, 0)), min(b[3], way(0, 2)), way(2, 1), way(1, 2)})
}

// Spaced is what pairs of a zone within a span come to: both its bounds are put, and what follows.
func Spaced(z api.Zone, s api.Span) (api.Zone, api.Errno) {
	high, low := Ends(s)
	return Follows(Put(Put(z, 4, min(z[4], high)), 5, min(z[5], low)))
}

// Windowed is what pairs of a zone in a window come to.
func Windowed(z api.Zone, from, to int) (api.Zone, api.Errno) {
	return Follows(Put(Put(z, 2, min(z[2], Most(to))), 3, min(z[3], Less(-from))))
}
