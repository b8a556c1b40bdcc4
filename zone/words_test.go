package zone_test

import (
	"math"
	"math/big"
	"testing"

	"rallentando/api"
	"rallentando/sample"
	"rallentando/zone"
)

const (
	edge  = 1 << 58
	none  = api.None
	least = math.MinInt
	great = math.MaxInt
)

// What bounds and matrices are written with, zones, points and spans.
var (
	most, less                         = sample.Most, sample.Less
	of, full, with, free               = sample.Of, sample.Full, sample.With, sample.Free
	put, mixed, follows, mayBe, has    = sample.Put, sample.Mixed, sample.Follows, sample.MayBe, sample.Has
	by, at, whole                      = sample.By, sample.At, sample.Whole
	from, above, below, inside, on, up = sample.From, sample.Above, sample.Below, sample.Inside, sample.On, sample.Up
	badSpans, nothings, badTimes       = sample.BadSpans, sample.NoSpans, sample.BadTimes
	every                              = sample.Every[api.Zone]
	small, wide, wrong, beyonds        = sample.SmallZones, sample.WideZones, sample.BadZones, sample.BadBounds
)

// The calls, with the chapter's signatures.
var (
	_ func(api.Zone) (api.Dbm, api.Errno)                      = zone.Matrix
	_ func(api.Dbm) (api.Zone, api.Errno)                      = zone.Of
	_ func(api.Zone) api.Errno                                 = zone.Check
	_ func(api.Span, api.Span, api.Span) (api.Zone, api.Errno) = zone.Make
	_ func(api.Zone, api.Point) (bool, api.Errno)              = zone.Has
	_ func(api.Zone, api.Zone) (bool, api.Errno)               = zone.In
	_ func(api.Zone, api.Zone) int                             = zone.Cmp
	_ func(api.Zone, api.Zone) (api.Zone, api.Errno)           = zone.Meet
	_ func(api.Zone) (api.Point, api.Errno)                    = zone.Pick
)

// sides are the clocks of a zone's bounds, in the chapter's order: the first one less the second one.
var sides = sample.Sides()

// Zones that many tests take.
var (
	all    = sample.All()
	box    = sample.Box()                                                   // the chapter's: t from 0 on below 2, u from 1 to 3, u - t above 0
	six    = api.Zone{most(4), most(0), most(4), most(0), most(2), most(2)} // t and u from 0 to 4, no more than 2 apart
	within = api.Zone{less(4), less(0), less(4), less(0), less(2), less(2)} // six without its sides
	point  = sample.Single()                                                // t 1, u 2
	far    = sample.Far()                                                   // t 2^58, u 0
)

// laid is a zone's matrix.
func laid(z api.Zone) api.Dbm {
	d := free(3)
	for i, s := range sides {
		d = with(d, s[0], s[1], z[i])
	}
	return d
}

// unlaid are the bounds of a matrix of three clocks in a zone's order.
func unlaid(d api.Dbm) api.Zone {
	var z api.Zone
	for i, s := range sides {
		z[i] = d.Bounds[3*s[0]+s[1]]
	}
	return z
}

// grid goes through pairs of times by quarters, which tell zones of numbers up to 3.
func grid(do func(t, u int)) {
	const reach = 4 * 7
	for t := -reach; t <= reach; t++ {
		for u := -reach; u <= reach; u++ {
			do(t, u)
		}
	}
}

// points tell which ones of the grid a zone has.
func points(z api.Zone) []bool {
	var l []bool
	grid(func(t, u int) { l = append(l, has(z, t, u)) })
	return l
}

// hasExactly tells of a point whether it is in a zone, with fractions that have no limits.
func hasExactly(z api.Zone, p api.Point) bool {
	clocks := [3]*big.Rat{new(big.Rat), big.NewRat(int64(p.T.Num), int64(p.T.Den)), big.NewRat(int64(p.U.Num), int64(p.U.Den))}
	for i, s := range sides {
		x := new(big.Rat).Sub(clocks[s[0]], clocks[s[1]])
		order := x.Cmp(big.NewRat(int64(z[i]>>1), 1))
		if z[i] != none && (order > 0 || order == 0 && z[i]%2 == 0) {
			return false
		}
	}
	return true
}

// triples goes through all three of some spans.
func triples(l []api.Span, do func([3]api.Span)) {
	for _, a := range l {
		for _, b := range l {
			for _, c := range l {
				do([3]api.Span{a, b, c})
			}
		}
	}
}

// told fails, unless a call answered just that zone; beside an error that is none.
func told(t *testing.T, name string, z api.Zone, e api.Errno, want api.Zone, wanted api.Errno, of ...any) {
	t.Helper()
	if wanted != api.OK {
		want = api.Zone{}
	}
	if z != want || e != wanted {
		t.Fatalf("%s(%v) = %v, %d, want %v, %d", name, of, z, e, want, wanted)
	}
}

// says fails, unless a call answered just that; beside an error that is false.
func says(t *testing.T, name string, is bool, e api.Errno, want bool, wanted api.Errno, of ...any) {
	t.Helper()
	if is != (want && wanted == api.OK) || e != wanted {
		t.Fatalf("%s(%v) = %t, %d, want %t, %d", name, of, is, e, want, wanted)
	}
}

func given(t *testing.T, d api.Dbm, want api.Zone, wanted api.Errno) {
	t.Helper()
	z, e := zone.Of(d)
	told(t, "Of", z, e, want, wanted, d)
}

func checked(t *testing.T, z api.Zone, wanted api.Errno) {
	t.Helper()
	if e := zone.Check(z); e != wanted {
		t.Fatalf("Check(%v) = %d, want %d", z, e, wanted)
	}
}

func made(t *testing.T, l [3]api.Span, want api.Zone, wanted api.Errno) {
	t.Helper()
	z, e := zone.Make(l[0], l[1], l[2])
	told(t, "Make", z, e, want, wanted, l)
}

func holds(t *testing.T, z api.Zone, p api.Point, want bool, wanted api.Errno) {
	t.Helper()
	is, e := zone.Has(z, p)
	says(t, "Has", is, e, want, wanted, z, p)
}

func lies(t *testing.T, a, b api.Zone, want bool, wanted api.Errno) {
	t.Helper()
	is, e := zone.In(a, b)
	says(t, "In", is, e, want, wanted, a, b)
}

func meets(t *testing.T, a, b, want api.Zone, wanted api.Errno) {
	t.Helper()
	z, e := zone.Meet(a, b)
	told(t, "Meet", z, e, want, wanted, a, b)
}

func picked(t *testing.T, z api.Zone, want api.Point, wanted api.Errno) {
	t.Helper()
	p, e := zone.Pick(z)
	if p != want || e != wanted {
		t.Fatalf("Pick(%v) = %v, %d, want %v, %d", z, p, e, want, wanted)
	}
}
