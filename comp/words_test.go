package comp_test

import (
	"testing"

	"rallentando/api"
	"rallentando/comp"
	"rallentando/sample"
)

const (
	edge = 1 << 58
	none = api.None
)

// What bounds, zones and spans are written with.
var (
	most, less                         = sample.Most, sample.Less
	put, has                           = sample.Put, sample.Has
	from, above, below, inside, on, up = sample.From, sample.Above, sample.Below, sample.Inside, sample.On, sample.Up
	over, square, one                  = sample.Over, sample.Square, sample.One
	every                              = sample.Every[api.Zone]
	isIn, bounds                       = sample.IsIn, sample.Ends
	small, wide, wrong                 = sample.SmallZones, sample.WideZones, sample.BadZones
	composed, behind, ahead            = sample.Composed, sample.Behind, sample.Ahead
)

// The calls, with the chapter's signatures.
var (
	_ func(api.Zone, api.Zone) (api.Zone, api.Errno) = comp.Comp
	_ func(api.Zone) (api.Zone, api.Errno)           = comp.Back
	_ func(api.Zone) (api.Span, api.Errno)           = comp.Firsts
)

// Zones that many tests take.
var (
	all   = sample.All()
	box   = sample.Box()
	point = sample.Single() // t 1, u 2
	far   = sample.Far()    // t 2^58, u 0
)

// back is a zone, the other way round, bound by bound.
func back(z api.Zone) api.Zone {
	var turned api.Zone
	for i, k := range [6]int{2, 3, 0, 1, 5, 4} {
		turned[k] = z[i]
	}
	return turned
}

// comes fails, unless both zones compose to just that one; beside an error to none.
func comes(t *testing.T, a, b, want api.Zone, wanted api.Errno) {
	t.Helper()
	if wanted != api.OK {
		want = api.Zone{}
	}
	if z, e := comp.Comp(a, b); z != want || e != wanted {
		t.Fatalf("Comp(%v, %v) = %v, %d, want %v, %d", a, b, z, e, want, wanted)
	}
}

// turns fails, unless a zone the other way round is just that one; beside an error none.
func turns(t *testing.T, z, want api.Zone, wanted api.Errno) {
	t.Helper()
	if turned, e := comp.Back(z); turned != want || e != wanted {
		t.Fatalf("Back(%v) = %v, %d, want %v, %d", z, turned, e, want, wanted)
	}
}

// begins fails, unless the firsts of a zone are just that span; beside an error none.
func begins(t *testing.T, z api.Zone, want api.Span, wanted api.Errno) {
	t.Helper()
	if s, e := comp.Firsts(z); s != want || e != wanted {
		t.Fatalf("Firsts(%v) = %v, %d, want %v, %d", z, s, e, want, wanted)
	}
}
