package zone_test

import (
	"math"
	"math/big"
	"slices"
	"testing"

	"rallentando/api"
	"rallentando/sample"
	"rallentando/zone"
)

const (
	edge  = 1 << 58
	none  = api.None
	least = math.MinInt
	great = math.MaxInt
)

// What matrices are written with.
var (
	most, less           = sample.Most, sample.Less
	of, full, with, free = sample.Of, sample.Full, sample.With, sample.Free
)

// The calls, with the chapter's signatures.
var (
	_ func(api.Zone) (api.Dbm, api.Errno)                      = zone.Matrix
	_ func(api.Dbm) (api.Zone, api.Errno)                      = zone.Of
	_ func(api.Zone) api.Errno                                 = zone.Check
	_ func(api.Span, api.Span, api.Span) (api.Zone, api.Errno) = zone.Make
	_ func(api.Zone, api.Point) (bool, api.Errno)              = zone.Has
	_ func(api.Zone, api.Zone) (bool, api.Errno)               = zone.In
	_ func(api.Zone, api.Zone) int                             = zone.Cmp
	_ func(api.Zone, api.Zone) (api.Zone, api.Errno)           = zone.Meet
	_ func(api.Zone) (api.Point, api.Errno)                    = zone.Pick
)

// sides are the clocks of a zone's bounds, in the chapter's order: the first one less the second one.
var sides = [6][2]int{{1, 0}, {0, 1}, {2, 0}, {0, 2}, {2, 1}, {1, 2}}

// Zones that many tests take.
var (
	all    = api.Zone{none, none, none, none, none, none}
	box    = api.Zone{4, 1, 7, -1, 7, 0}                                                  // the chapter's: t from 0 on below 2, u from 1 to 3, u - t above 0
	six    = api.Zone{most(4), most(0), most(4), most(0), most(2), most(2)}               // t and u from 0 to 4, no more than 2 apart
	within = api.Zone{less(4), less(0), less(4), less(0), less(2), less(2)}               // six without its sides
	point  = api.Zone{most(1), most(-1), most(2), most(-2), most(1), most(-1)}            // t 1, u 2
	far    = api.Zone{most(edge), most(-edge), most(0), most(0), most(-edge), most(edge)} // t 2^58, u 0
)

// put is a zone that has another bound at one place.
func put(z api.Zone, i int, b api.Bound) api.Zone {
	z[i] = b
	return z
}

// laid is a zone's matrix.
func laid(z api.Zone) api.Dbm {
	d := free(3)
	for i, s := range sides {
		d = with(d, s[0], s[1], z[i])
	}
	return d
}

// unlaid are the bounds of a matrix of three clocks in a zone's order.
func unlaid(d api.Dbm) api.Zone {
	var z api.Zone
	for i, s := range sides {
		z[i] = d.Bounds[3*s[0]+s[1]]
	}
	return z
}

// sum is that of two bounds, far from what no int holds.
func sum(a, b api.Bound) api.Bound {
	if a == none || b == none {
		return none
	}
	c := int(a>>1) + int(b>>1)
	if a%2 == 0 || b%2 == 0 {
		return less(c)
	}
	return most(c)
}

// beyond tells whether some bound of a zone may not be in a matrix.
func beyond(z api.Zone) bool {
	return slices.ContainsFunc(z[:], func(b api.Bound) bool { return b != none && (b < less(-edge) || b > most(edge)) })
}

// follows is the zone that bounds come to, which may be in a matrix: each is the lesser one of the two ways there are with three clocks, and a way back below 0 empties it.
func follows(z api.Zone) (api.Zone, api.Errno) {
	var d [3][3]api.Bound
	for i, s := range sides {
		d[s[0]][s[1]] = z[i]
	}
	closed, nothing := api.Zone{}, false
	for i, s := range sides {
		third := 3 - s[0] - s[1]
		closed[i] = min(z[i], sum(d[s[0]][third], d[third][s[1]]))
		nothing = nothing || sum(closed[i], d[s[1]][s[0]]) < most(0)
	}
	if nothing {
		return api.Zone{}, api.ErrNone
	}
	if beyond(closed) {
		return api.Zone{}, api.ErrBad
	}
	return closed, api.OK
}

// mayBe tells whether a zone may be.
func mayBe(z api.Zone) bool {
	if beyond(z) {
		return false
	}
	closed, e := follows(z)
	return e == api.OK && closed == z
}

// mixed are all zones that a few bounds make, whether they may be or not.
func mixed(few ...api.Bound) []api.Zone {
	l := []api.Zone{{}}
	for i := range 6 {
		var longer []api.Zone
		for _, z := range l {
			for _, b := range few {
				longer = append(longer, put(z, i, b))
			}
		}
		l = longer
	}
	return l
}

// good are those of some zones that may be.
func good(l []api.Zone) []api.Zone {
	return slices.DeleteFunc(l, func(z api.Zone) bool { return !mayBe(z) })
}

// every is the first one of each n of some.
func every(n int, l []api.Zone) []api.Zone {
	var few []api.Zone
	for i := 0; i < len(l); i += n {
		few = append(few, l[i])
	}
	return few
}

// small are zones that may be, of numbers up to 2, all there are of some bounds.
func small() []api.Zone {
	return good(mixed(none, -2, -1, 0, 1, 2, 3, 5))
}

// wide are zones that may be, with numbers at the edges.
func wide() []api.Zone {
	return good(mixed(none, most(edge), less(edge), most(-edge), less(-edge), 0, 1, 2))
}

// beyonds are bounds that may not be in a matrix.
func beyonds() []api.Bound {
	return []api.Bound{most(edge + 1), less(edge + 1), most(-edge - 1), less(-edge - 1), most(1 << 61), less(-1 << 61), none - 1, none - 2, least, least + 1}
}

// wrong are zones that may not be: by a bound, since they are not closed, and since they are empty.
func wrong() []api.Zone {
	l := []api.Zone{{}, {1, 1, 1, 1, 1, 0}, {3, -5, 9, 1, 9, 9}, {most(edge), less(-edge), none, none, none, none}, {none, none, most(-edge), most(-edge), none, none}, {none, none, none, none, most(1), less(-1)}}
	for i := range 6 {
		for _, b := range beyonds() {
			l = append(l, put(all, i, b), put(box, i, b))
		}
		l = append(l, put(point, i, point[i]+1), put(point, i, point[i]-1), put(point, i, none), put(point, i, most(edge)), put(far, i, none))
	}
	return l
}

// has tells of times by quarters whether they are in a zone.
func has(z api.Zone, t, u int) bool {
	for i, x := range [6]int{t, -t, u, -u, u - t, t - u} {
		c := 4 * int(z[i]>>1)
		if z[i] != none && (x > c || x == c && z[i]%2 == 0) {
			return false
		}
	}
	return true
}

// grid goes through pairs of times by quarters, which tell zones of numbers up to 3.
func grid(do func(t, u int)) {
	const reach = 4 * 7
	for t := -reach; t <= reach; t++ {
		for u := -reach; u <= reach; u++ {
			do(t, u)
		}
	}
}

// points tell which ones of the grid a zone has.
func points(z api.Zone) []bool {
	var l []bool
	grid(func(t, u int) { l = append(l, has(z, t, u)) })
	return l
}

// hasExactly tells of a point whether it is in a zone, with fractions that have no limits.
func hasExactly(z api.Zone, p api.Point) bool {
	clocks := [3]*big.Rat{new(big.Rat), big.NewRat(int64(p.T.Num), int64(p.T.Den)), big.NewRat(int64(p.U.Num), int64(p.U.Den))}
	for i, s := range sides {
		x := new(big.Rat).Sub(clocks[s[0]], clocks[s[1]])
		order := x.Cmp(big.NewRat(int64(z[i]>>1), 1))
		if z[i] != none && (order > 0 || order == 0 && z[i]%2 == 0) {
			return false
		}
	}
	return true
}

// by is a fraction in lowest terms.
func by(n, d int) api.Rat {
	x := big.NewRat(int64(n), int64(d))
	return api.Rat{Num: int(x.Num().Int64()), Den: int(x.Denom().Int64())}
}

// at is a pair of times by quarters.
func at(t, u int) api.Point { return api.Point{T: by(t, 4), U: by(u, 4)} }

// whole is a pair of whole times.
func whole(t, u int) api.Point { return api.Point{T: by(t, 1), U: by(u, 1)} }

// What spans are written with: from a to b, without either end, without both; from a on, and above a.
func from(a, b int) api.Span   { return api.Span{Low: a, High: b} }
func above(a, b int) api.Span  { return api.Span{Low: a, LowStrict: true, High: b} }
func below(a, b int) api.Span  { return api.Span{Low: a, High: b, HighStrict: true} }
func inside(a, b int) api.Span { return api.Span{Low: a, LowStrict: true, High: b, HighStrict: true} }
func on(a int) api.Span        { return api.Span{Low: a, Open: true} }
func up(a int) api.Span        { return api.Span{Low: a, LowStrict: true, Open: true} }

// spanned are the bounds of three spans, before anything follows from them.
func spanned(l [3]api.Span) api.Zone {
	var z api.Zone
	for i, s := range l {
		z[2*i], z[2*i+1] = most(s.High), most(-s.Low)
		if s.HighStrict {
			z[2*i] = less(s.High)
		}
		if s.Open {
			z[2*i] = none
		}
		if s.LowStrict {
			z[2*i+1] = less(-s.Low)
		}
	}
	return z
}

// isIn tells of a number by quarters whether it is in a span.
func isIn(x int, s api.Span) bool {
	if x < 4*s.Low || x == 4*s.Low && s.LowStrict {
		return false
	}
	return s.Open || x < 4*s.High || x == 4*s.High && !s.HighStrict
}

// triples goes through all three of some spans.
func triples(l []api.Span, do func([3]api.Span)) {
	for _, a := range l {
		for _, b := range l {
			for _, c := range l {
				do([3]api.Span{a, b, c})
			}
		}
	}
}

// told fails, unless a call answered just that zone; beside an error that is none.
func told(t *testing.T, name string, z api.Zone, e api.Errno, want api.Zone, wanted api.Errno, of ...any) {
	t.Helper()
	if wanted != api.OK {
		want = api.Zone{}
	}
	if z != want || e != wanted {
		t.Fatalf("%s(%v) = %v, %d, want %v, %d", name, of, z, e, want, wanted)
	}
}

// says fails, unless a call answered just that; beside an error that is false.
func says(t *testing.T, name string, is bool, e api.Errno, want bool, wanted api.Errno, of ...any) {
	t.Helper()
	if is != (want && wanted == api.OK) || e != wanted {
		t.Fatalf("%s(%v) = %t, %d, want %t, %d", name, of, is, e, want, wanted)
	}
}

func given(t *testing.T, d api.Dbm, want api.Zone, wanted api.Errno) {
	t.Helper()
	z, e := zone.Of(d)
	told(t, "Of", z, e, want, wanted, d)
}

func checked(t *testing.T, z api.Zone, wanted api.Errno) {
	t.Helper()
	if e := zone.Check(z); e != wanted {
		t.Fatalf("Check(%v) = %d, want %d", z, e, wanted)
	}
}

func made(t *testing.T, l [3]api.Span, want api.Zone, wanted api.Errno) {
	t.Helper()
	z, e := zone.Make(l[0], l[1], l[2])
	told(t, "Make", z, e, want, wanted, l)
}

func holds(t *testing.T, z api.Zone, p api.Point, want bool, wanted api.Errno) {
	t.Helper()
	is, e := zone.Has(z, p)
	says(t, "Has", is, e, want, wanted, z, p)
}

func lies(t *testing.T, a, b api.Zone, want bool, wanted api.Errno) {
	t.Helper()
	is, e := zone.In(a, b)
	says(t, "In", is, e, want, wanted, a, b)
}

func meets(t *testing.T, a, b, want api.Zone, wanted api.Errno) {
	t.Helper()
	z, e := zone.Meet(a, b)
	told(t, "Meet", z, e, want, wanted, a, b)
}

func picked(t *testing.T, z api.Zone, want api.Point, wanted api.Errno) {
	t.Helper()
	p, e := zone.Pick(z)
	if p != want || e != wanted {
		t.Fatalf("Pick(%v) = %v, %d, want %v, %d", z, p, e, want, wanted)
	}
}
