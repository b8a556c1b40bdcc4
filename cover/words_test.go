package cover_test

import (
	"slices"
	"testing"

	"rallentando/api"
	"rallentando/cover"
	"rallentando/sample"
	"rallentando/zone"
)

const (
	edge = sample.Edge
	none = api.None
)

// What bounds, zones and spans are written with.
var (
	most, less                         = sample.Most, sample.Less
	put                                = sample.Put
	from, above, below, inside, on, up = sample.From, sample.Above, sample.Below, sample.Inside, sample.On, sample.Up
	over, square, one                  = sample.Over, sample.Square, sample.One
	starting, ending, differing        = sample.Starting, sample.Ending, sample.Differing
	every                              = sample.Every[api.Zone]
	small, wide, wrong, narrow         = sample.SmallZones, sample.WideZones, sample.BadZones, sample.NarrowZones
	inByWords, allByWords              = sample.Covered, sample.AllCovered
	pruneByWords, picked, orders       = sample.Wanted, sample.Picked, sample.Orders
)

// The calls, with the chapter's signatures.
var (
	_ func(api.Zone, []api.Zone) (bool, api.Errno)      = cover.In
	_ func([]api.Zone) ([]api.Zone, api.Errno)          = cover.Prune
	_ func([]api.Zone, []api.Zone) (bool, api.Errno)    = cover.All
	_ func(api.Zone, []api.Zone) (api.Point, api.Errno) = cover.Witness
)

// Zones that many tests take.
var (
	all    = sample.All()
	box    = sample.Box()                        // t from 0 on below 2, u from 1 to 3, u - t above 0
	point  = sample.Single()                     // t 1, u 2
	far    = sample.Far()                        // t 2^58, u 0
	whole  = over(from(0, 4), from(0, 4), up(0)) // the chapter's Z: t and u from 0 to 4, u - t above 0
	first  = over(from(0, 1), from(0, 4), up(0)) // its A: the same with t up to 1
	second = over(from(1, 4), from(0, 4), up(0)) // its B: the same with t from 1 on
	broad  = square(from(0, 4), from(0, 4))      // t and u from 0 to 4
	upper  = put(all, 0, most(edge))             // t up to 2^58
	beyond = put(all, 4, most(1))                // u - t up to 1: with t up to 2^58 it comes to u up to 2^58 and 1
	stuff  = []api.Zone{all, box, point, far, whole, first, second, broad}
)

// zones are some, as they are written.
func zones(l ...api.Zone) []api.Zone { return l }

// times are a zone so many times.
func times(n int, z api.Zone) []api.Zone { return slices.Repeat(zones(z), n) }

// witnessByWords is the point that is picked of the first zone that is left of a zone by some.
func witnessByWords(z api.Zone, l []api.Zone) (api.Point, api.Errno) {
	left, e := sample.Left(z, l)
	if e != api.OK {
		return api.Point{}, e
	}
	if len(left) == 0 {
		return api.Point{}, api.ErrNone
	}
	return zone.Pick(left[0])
}

// isIn fails, unless that is told of whether a zone is covered by some; beside an error it is not.
func isIn(t *testing.T, z api.Zone, l []api.Zone, want bool, wanted api.Errno) {
	t.Helper()
	if is, e := cover.In(z, l); is != want || e != wanted {
		t.Fatalf("In(%v, %v) = %t, %d, want %t, %d", z, few(l), is, e, want, wanted)
	}
}

// areIn fails, unless that is told of whether some are covered by others; beside an error they are not.
func areIn(t *testing.T, a, b []api.Zone, want bool, wanted api.Errno) {
	t.Helper()
	if is, e := cover.All(a, b); is != want || e != wanted {
		t.Fatalf("All(%v, %v) = %t, %d, want %t, %d", few(a), few(b), is, e, want, wanted)
	}
}

// wants fails, unless just these are wanted of some, in this order; beside an error none.
func wants(t *testing.T, l, want []api.Zone, wanted api.Errno) {
	t.Helper()
	if got, e := cover.Prune(l); !slices.Equal(got, want) || e != wanted {
		t.Fatalf("Prune(%v) = %v, %d, want %v, %d", few(l), few(got), e, few(want), wanted)
	}
}

// shows fails, unless this is the witness of a zone that is not covered by some; beside an error it is the zero one.
func shows(t *testing.T, z api.Zone, l []api.Zone, want api.Point, wanted api.Errno) {
	t.Helper()
	if p, e := cover.Witness(z, l); p != want || e != wanted {
		t.Fatalf("Witness(%v, %v) = %v, %d, want %v, %d", z, few(l), p, e, want, wanted)
	}
}

// refused fails, unless In and Witness of a zone by some, and All of it alone, tell this error.
func refused(t *testing.T, z api.Zone, l []api.Zone, e api.Errno) {
	t.Helper()
	isIn(t, z, l, false, e)
	areIn(t, zones(z), l, false, e)
	shows(t, z, l, api.Point{}, e)
}

// few are the first ones of some, if there are too many to be told.
func few(l []api.Zone) []api.Zone { return l[:min(len(l), 9)] }
