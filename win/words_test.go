package win_test

import (
	"math"
	"testing"

	"rallentando/api"
	"rallentando/sample"
	"rallentando/win"
)

const (
	edge  = 1 << 58
	none  = api.None
	least = math.MinInt
	great = math.MaxInt
)

// What bounds, zones and spans are written with.
var (
	most, less                         = sample.Most, sample.Less
	put, has, mayBe                    = sample.Put, sample.Has, sample.MayBe
	from, above, below, inside, on, up = sample.From, sample.Above, sample.Below, sample.Inside, sample.On, sample.Up
	over, square, one                  = sample.Over, sample.Square, sample.One
	ending, differing, bounds          = sample.Ending, sample.Differing, sample.Ends
	isIn, badSpans, nothings           = sample.IsIn, sample.BadSpans, sample.NoSpans
	badWindows                         = sample.BadWindows
	every                              = sample.Every[api.Zone]
	small, wide, wrong                 = sample.SmallZones, sample.WideZones, sample.BadZones
	withinByWords, windowByWords       = sample.Spaced, sample.Windowed
)

// The calls, with the chapter's signatures.
var (
	_ func(api.Zone, api.Span) (api.Zone, api.Errno) = win.Within
	_ func(api.Zone, int, int) (api.Zone, api.Errno) = win.Window
	_ func(api.Zone, int) (api.Zone, api.Errno)      = win.Shift
)

// Zones that many tests take.
var (
	all   = sample.All()
	box   = sample.Box()
	point = sample.Single()                     // t 1, u 2
	far   = sample.Far()                        // t 2^58, u 0
	whole = over(from(0, 4), from(0, 4), up(0)) // the chapter's: t and u from 0 to 4, u - t above 0
)

// shiftByWords is a zone so much later, or ErrBad, if it may not be.
func shiftByWords(z api.Zone, by int) (api.Zone, api.Errno) {
	for i, way := range [4]int{by, -by, by, -by} {
		z[i] = sample.Sum(z[i], most(way))
	}
	if !mayBe(z) {
		return api.Zone{}, api.ErrBad
	}
	return z, api.OK
}

// cuts fails, unless a zone within a span is just that one; beside an error none.
func cuts(t *testing.T, z api.Zone, s api.Span, want api.Zone, wanted api.Errno) {
	t.Helper()
	got, e := win.Within(z, s)
	told(t, "Within", got, e, want, wanted, z, s)
}

// opens fails, unless a zone in a window is just that one; beside an error none.
func opens(t *testing.T, z api.Zone, low, high int, want api.Zone, wanted api.Errno) {
	t.Helper()
	got, e := win.Window(z, low, high)
	told(t, "Window", got, e, want, wanted, z, low, high)
}

// goes fails, unless a zone so much later is just that one; beside an error none.
func goes(t *testing.T, z api.Zone, by int, want api.Zone, wanted api.Errno) {
	t.Helper()
	got, e := win.Shift(z, by)
	told(t, "Shift", got, e, want, wanted, z, by)
}

// told fails, unless a call answered just that; beside an error that is no zone.
func told(t *testing.T, name string, z api.Zone, e api.Errno, want api.Zone, wanted api.Errno, of ...any) {
	t.Helper()
	if wanted != api.OK {
		want = api.Zone{}
	}
	if z != want || e != wanted {
		t.Fatalf("%s(%v) = %v, %d, want %v, %d", name, of, z, e, want, wanted)
	}
}
