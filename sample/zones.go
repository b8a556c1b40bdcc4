package sample

import (
	"slices"

	"rallentando/api"
)

// All is the zone of all pairs.
func All() api.Zone {
	return api.Zone{api.None, api.None, api.None, api.None, api.None, api.None}
}

// Box is the zone of t from 0 on below 2, u from 1 to 3, u - t above 0.
func Box() api.Zone { return api.Zone{4, 1, 7, -1, 7, 0} }

// Single is the zone of t 1, u 2 alone.
func Single() api.Zone {
	return api.Zone{Most(1), Most(-1), Most(2), Most(-2), Most(1), Most(-1)}
}

// Far is the zone of t 2^58, u 0 alone.
func Far() api.Zone {
	return api.Zone{Most(Edge), Most(-Edge), Most(0), Most(0), Most(-Edge), Most(Edge)}
}

// Over is the zone of spans for t, for u, and for u less t, which may be.
func Over(t, u, d api.Span) api.Zone { return sure(Spanned([3]api.Span{t, u, d})) }

// Square is the zone of spans for t and for u alone, which may be.
func Square(t, u api.Span) api.Zone {
	return sure(Put(Put(Spanned([3]api.Span{t, u}), 4, api.None), 5, api.None))
}

// sure is the zone that bounds come to, if they come to one.
func sure(z api.Zone) api.Zone {
	closed, e := Follows(z)
	if e != api.OK {
		panic(e)
	}
	return closed
}

// One is the zone of one pair.
func One(t, u int) api.Zone { return Square(From(t, t), From(u, u)) }

// Starting is the zone of all pairs whose t is in a span.
func Starting(s api.Span) api.Zone { return spanned(0, s) }

// Ending is the zone of all pairs whose u is in a span.
func Ending(s api.Span) api.Zone { return spanned(2, s) }

// Differing is the zone of all pairs whose u less t is in a span.
func Differing(s api.Span) api.Zone { return spanned(4, s) }

// spanned is the zone of which just one difference is in a span.
func spanned(i int, s api.Span) api.Zone {
	z := All()
	z[i], z[i+1] = Ends(s)
	return z
}

// Sides are the clocks of a zone's bounds, in their order: the first one less the second one.
func Sides() [6][2]int {
	return [...][2]int{{1, 0}, {0, 1}, {2, 0}, {0, 2}, {2, 1}, {1, 2}}
}

// Put is a zone that has another bound at one place.
func Put(z api.Zone, i int, b api.Bound) api.Zone {
	z[i] = b
	return z
}

// Sum is that of two bounds, far from what no int holds.
func Sum(a, b api.Bound) api.Bound {
	if a == api.None || b == api.None {
		return api.None
	}
	c := int(a>>1) + int(b>>1)
	if a%2 == 0 || b%2 == 0 {
		return Less(c)
	}
	return Most(c)
}

// Addition is a sum of two bounds, or which error it is, if it may not be in a zone.
type Addition struct {
	A, B, Sum api.Bound
	E         api.Errno
}

// Additions are sums of bounds just within what may be in a zone, and just beyond it.
func Additions() []Addition {
	return []Addition{
		{A: Most(Edge), B: Most(0), Sum: Most(Edge)}, {A: Less(Edge), B: Most(0), Sum: Less(Edge)}, {A: Most(Edge), B: Less(0), Sum: Less(Edge)}, {A: Most(Edge - 1), B: Most(1), Sum: Most(Edge)}, {A: Less(Edge - 7), B: Less(7), Sum: Less(Edge)},
		{A: Most(0), B: Most(Edge), Sum: Most(Edge)}, {A: Most(1), B: Less(Edge - 1), Sum: Less(Edge)}, {A: Most(-Edge), B: Most(Edge), Sum: Most(0)}, {A: Most(Edge), B: Less(-Edge), Sum: Less(0)}, {A: Most(-3), B: Most(Edge), Sum: Most(Edge - 3)},
		{A: Most(-Edge), B: Most(0), Sum: Most(-Edge)}, {A: Less(-Edge), B: Most(0), Sum: Less(-Edge)}, {A: Most(1 - Edge), B: Less(-1), Sum: Less(-Edge)}, {A: Most(0), B: Less(-Edge), Sum: Less(-Edge)}, {A: Most(-Edge), B: Most(1), Sum: Most(1 - Edge)},
		{A: Most(Edge), B: Most(1), E: api.ErrBad}, {A: Less(Edge), B: Most(1), E: api.ErrBad}, {A: Most(Edge), B: Less(1), E: api.ErrBad}, {A: Less(1), B: Less(Edge), E: api.ErrBad}, {A: Most(Edge), B: Most(Edge), E: api.ErrBad}, {A: Less(Edge), B: Less(Edge), E: api.ErrBad},
		{A: Most(-Edge), B: Most(-1), E: api.ErrBad}, {A: Less(-Edge), B: Most(-1), E: api.ErrBad}, {A: Most(-1), B: Less(-Edge), E: api.ErrBad}, {A: Most(-Edge), B: Most(-Edge), E: api.ErrBad}, {A: Less(-Edge), B: Less(-Edge), E: api.ErrBad},
	}
}

// Follows is the zone that bounds come to, or which error: each is the lesser one of the two ways there are with three clocks, and a way back below 0 empties it.
func Follows(z api.Zone) (api.Zone, api.Errno) {
	var d [3][3]api.Bound
	for i, s := range Sides() {
		d[s[0]][s[1]] = z[i]
	}
	closed, nothing := api.Zone{}, false
	for i, s := range Sides() {
		third := 3 - s[0] - s[1]
		closed[i] = min(z[i], Sum(d[s[0]][third], d[third][s[1]]))
		nothing = nothing || Sum(closed[i], d[s[1]][s[0]]) < Most(0)
	}
	if nothing {
		return api.Zone{}, api.ErrNone
	}
	if beyond(closed) {
		return api.Zone{}, api.ErrBad
	}
	return closed, api.OK
}

// MayBe tells whether a zone may be.
func MayBe(z api.Zone) bool {
	if beyond(z) {
		return false
	}
	closed, e := Follows(z)
	return e == api.OK && closed == z
}

// beyond tells whether some bound of a zone may not be in a matrix.
func beyond(z api.Zone) bool {
	return slices.ContainsFunc(z[:], func(b api.Bound) bool { return b != api.None && (b < Less(-Edge) || b > Most(Edge)) })
}

// Mixed are all zones that a few bounds make, whether they may be or not.
func Mixed(few ...api.Bound) []api.Zone {
	l := []api.Zone{{}}
	for i := range 6 {
		var longer []api.Zone
		for _, z := range l {
			for _, b := range few {
				longer = append(longer, Put(z, i, b))
			}
		}
		l = longer
	}
	return l
}

// Every is the first one of each n of some.
func Every[T any](n int, l []T) []T {
	var few []T
	for i := 0; i < len(l); i += n {
		few = append(few, l[i])
	}
	return few
}

// GoodZones are all zones of a few bounds that may be.
func GoodZones(few ...api.Bound) []api.Zone {
	return slices.DeleteFunc(Mixed(few...), func(z api.Zone) bool { return !MayBe(z) })
}

// SmallZones are zones that may be, of numbers up to 2, all there are of some bounds.
func SmallZones() []api.Zone {
	return GoodZones(api.None, -2, -1, 0, 1, 2, 3, 5)
}

// WideZones are zones that may be, with numbers at the edges.
func WideZones() []api.Zone {
	return GoodZones(api.None, Most(Edge), Less(Edge), Most(-Edge), Less(-Edge), 0, 1, 2)
}

// BadZones are zones that may not be: by a bound, since they are not closed, and since they are empty.
func BadZones() []api.Zone {
	l := []api.Zone{{}, {1, 1, 1, 1, 1, 0}, {3, -5, 9, 1, 9, 9}, {Most(Edge), Less(-Edge), api.None, api.None, api.None, api.None},
		{api.None, api.None, Most(-Edge), Most(-Edge), api.None, api.None}, {api.None, api.None, api.None, api.None, Most(1), Less(-1)}}
	for i := range 6 {
		for _, b := range BadBounds() {
			l = append(l, Put(All(), i, b), Put(Box(), i, b))
		}
		one := Single()
		for _, b := range []api.Bound{one[i] + 1, one[i] - 1, api.None, Most(Edge)} {
			l = append(l, Put(one, i, b))
		}
		l = append(l, Put(Far(), i, api.None))
	}
	return l
}

// Has tells of times by quarters whether they are in a zone.
func Has(z api.Zone, t, u int) bool { return HasBy(4, z, t, u) }

// HasBy tells it of times by any unit.
func HasBy(unit int, z api.Zone, t, u int) bool {
	for i, x := range [6]int{t, -t, u, -u, u - t, t - u} {
		c := unit * int(z[i]>>1)
		if z[i] != api.None && (x > c || x == c && z[i]%2 == 0) {
			return false
		}
	}
	return true
}

// At is a pair of times by quarters.
func At(t, u int) api.Point { return api.Point{T: By(t, 4), U: By(u, 4)} }

// Whole is a pair of whole times.
func Whole(t, u int) api.Point { return api.Point{T: By(t, 1), U: By(u, 1)} }
