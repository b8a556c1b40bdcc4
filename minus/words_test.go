package minus_test

import (
	"slices"
	"testing"

	"rallentando/api"
	"rallentando/minus"
	"rallentando/sample"
)

const (
	edge = 1 << 58
	none = api.None
)

// What bounds, zones and spans are written with.
var (
	most, less                         = sample.Most, sample.Less
	put, has                           = sample.Put, sample.Has
	from, above, below, inside, on, up = sample.From, sample.Above, sample.Below, sample.Inside, sample.On, sample.Up
	over, square, one                  = sample.Over, sample.Square, sample.One
	starting, ending, differing        = sample.Starting, sample.Ending, sample.Differing
	not, minusByWords, leftByWords     = sample.Not, sample.Minus, sample.Left
	every                              = sample.Every[api.Zone]
	small, wide, wrong                 = sample.SmallZones, sample.WideZones, sample.BadZones
)

// The calls, with the chapter's signatures.
var (
	_ func(api.Zone, api.Zone) ([]api.Zone, api.Errno)   = minus.Minus
	_ func(api.Zone, []api.Zone) ([]api.Zone, api.Errno) = minus.Left
)

// Zones that many tests take.
var (
	all   = sample.All()
	box   = sample.Box()                            // t from 0 on below 2, u from 1 to 3, u - t above 0
	point = sample.Single()                         // t 1, u 2
	far   = sample.Far()                            // t 2^58, u 0
	whole = over(from(0, 4), from(0, 4), up(0))     // the chapter's: t and u from 0 to 4, u - t above 0
	part  = over(from(1, 2), from(0, 4), up(0))     // the chapter's other one: the same with t from 1 to 2
	broad = square(from(0, 4), from(0, 4))          // t and u from 0 to 4
	upper = put(all, 0, most(edge))                 // t up to 2^58
	lower = put(all, 1, most(edge))                 // t from -2^58 on
	stuff = []api.Zone{all, box, point, far, whole} // the first five
)

// zones are some, as they are written.
func zones(l ...api.Zone) []api.Zone { return l }

// takes fails, unless one zone less another one is just these, in this order; beside an error none.
func takes(t *testing.T, a, b api.Zone, want []api.Zone, wanted api.Errno) {
	t.Helper()
	l, e := minus.Minus(a, b)
	told(t, "Minus", l, e, want, wanted, a, b)
}

// leaves fails, unless what is left of a zone by some is just these, in this order; beside an error none.
func leaves(t *testing.T, a api.Zone, l, want []api.Zone, wanted api.Errno) {
	t.Helper()
	left, e := minus.Left(a, l)
	told(t, "Left", left, e, want, wanted, a, l)
}

// told fails, unless a call answered just these zones; beside an error that are none.
func told(t *testing.T, name string, l []api.Zone, e api.Errno, want []api.Zone, wanted api.Errno, of ...any) {
	t.Helper()
	if wanted != api.OK {
		want = nil
	}
	if e == wanted && slices.Equal(l, want) {
		return
	}
	if len(l) > 9 || len(want) > 9 {
		t.Fatalf("%s answers %d zones, %d, want %d, %d", name, len(l), e, len(want), wanted)
	}
	t.Fatalf("%s(%v) = %v, %d, want %v, %d", name, of, l, e, want, wanted)
}
