package zset_test

import (
	"slices"
	"testing"

	"rallentando/api"
	"rallentando/sample"
	"rallentando/zset"
)

const (
	edge = sample.Edge
	none = api.None
)

// What bounds, zones, spans and points are written with.
var (
	most, less                         = sample.Most, sample.Less
	put, at, pair                      = sample.Put, sample.At, sample.Whole
	from, above, below, inside, on, up = sample.From, sample.Above, sample.Below, sample.Inside, sample.On, sample.Up
	over, square, one                  = sample.Over, sample.Square, sample.One
	starting, ending, differing        = sample.Starting, sample.Ending, sample.Differing
	every, picked, orders              = sample.Every[api.Zone], sample.Picked, sample.Orders
	small, wide, wrong, narrow         = sample.SmallZones, sample.WideZones, sample.BadZones, sample.NarrowZones
	badSpans, badWindows, badTimes     = sample.BadSpans, sample.BadWindows, sample.BadTimes
	pointsOf                           = sample.PointsOf
)

// The calls, with the chapter's signatures.
var (
	_ func([]api.Zone) api.Errno                           = zset.Check
	_ func([]api.Zone) ([]api.Zone, api.Errno)             = zset.Of
	_ func([]api.Zone, []api.Zone) ([]api.Zone, api.Errno) = zset.Or
	_ func([]api.Zone, []api.Zone) ([]api.Zone, api.Errno) = zset.And
	_ func([]api.Zone, []api.Zone) ([]api.Zone, api.Errno) = zset.Comp
	_ func([]api.Zone, api.Span) ([]api.Zone, api.Errno)   = zset.Within
	_ func([]api.Zone, int, int) ([]api.Zone, api.Errno)   = zset.Window
	_ func([]api.Zone, []api.Zone) (bool, api.Errno)       = zset.In
	_ func([]api.Zone, []api.Zone) (bool, api.Errno)       = zset.Same
	_ func([]api.Zone, api.Point) (bool, api.Errno)        = zset.Has
)

// Zones that many tests take.
var (
	all    = sample.All()
	box    = sample.Box()                        // t from 0 on below 2, u from 1 to 3, u - t above 0
	point  = sample.Single()                     // t 1, u 2
	far    = sample.Far()                        // t 2^58, u 0
	whole  = over(from(0, 4), from(0, 4), up(0)) // the chapter's Z: t and u from 0 to 4, u - t above 0
	first  = over(from(0, 1), from(0, 4), up(0)) // its A: the same with t up to 1
	second = over(from(1, 4), from(0, 4), up(0)) // its B: the same with t from 1 on
	broad  = square(from(0, 4), from(0, 4))      // t and u from 0 to 4
	upper  = put(all, 0, most(edge))             // t up to 2^58
	beyond = put(all, 4, most(1))                // u - t up to 1: with t up to 2^58 it comes to u up to 2^58 and 1
	long   = put(all, 4, most(edge))             // u - t up to 2^58: twice it is too long
	stuff  = []api.Zone{all, box, point, far, whole, first, second, broad}
)

// zones are some, as they are written.
func zones(l ...api.Zone) []api.Zone { return l }

// times are a zone so many times.
func times(n int, z api.Zone) []api.Zone { return slices.Repeat(zones(z), n) }

// few are the first ones of some, if there are too many to be told.
func few(l []api.Zone) []api.Zone { return l[:min(len(l), 9)] }

// wanted are those of some that are wanted, by the words.
func wanted(l []api.Zone) ([]api.Zone, api.Errno) {
	if len(l) > api.MaxList {
		return nil, api.ErrMany
	}
	return sample.Wanted(l)
}

// bothByWords is what two lists come to, zone by zone of the first one, by what two zones come to.
func bothByWords(a, b []api.Zone, two func(z, w api.Zone) (api.Zone, api.Errno)) (l []api.Zone, e api.Errno) {
	for _, z := range a {
		for _, w := range b {
			both, e := two(z, w)
			if e == api.OK {
				l = append(l, both)
			} else if e != api.ErrNone {
				return nil, e
			}
		}
		if l, e = wanted(l); e != api.OK {
			return nil, e
		}
	}
	return l, api.OK
}

// eachByWords is what all zones of a list come to, by what one zone comes to.
func eachByWords(l []api.Zone, one func(z api.Zone) (api.Zone, api.Errno)) ([]api.Zone, api.Errno) {
	var come []api.Zone
	for _, z := range l {
		made, e := one(z)
		if e == api.OK {
			come = append(come, made)
		} else if e != api.ErrNone {
			return nil, e
		}
	}
	return wanted(come)
}

// withinByWords, windowByWords and sameByWords are what lists that may be come to, by a span, and numbers, that may be, and whether two have the same pairs.
func withinByWords(l []api.Zone, s api.Span) ([]api.Zone, api.Errno) {
	return eachByWords(l, func(z api.Zone) (api.Zone, api.Errno) { return sample.Spaced(z, s) })
}

func windowByWords(l []api.Zone, low, high int) ([]api.Zone, api.Errno) {
	return eachByWords(l, func(z api.Zone) (api.Zone, api.Errno) { return sample.Windowed(z, low, high) })
}

func sameByWords(a, b []api.Zone) (bool, api.Errno) {
	if is, e := sample.AllCovered(a, b); !is {
		return false, e
	}
	return sample.AllCovered(b, a)
}

// checks fails, unless that is told of whether a list is as it has to be.
func checks(t *testing.T, l []api.Zone, want api.Errno) {
	t.Helper()
	if e := zset.Check(l); e != want {
		t.Fatalf("Check(%v) = %d, want %d", few(l), e, want)
	}
}

// settled fails, unless what was answered is as it has to be, where what is wanted of it is answered.
func settled(t *testing.T, l []api.Zone) {
	t.Helper()
	again, e := wanted(l)
	if e != api.OK {
		checks(t, l, api.ErrBad)
		return
	}
	if !slices.Equal(again, l) {
		t.Fatalf("of %v %v are wanted", l, again)
	}
	checks(t, l, api.OK)
}

// wants fails, unless just these are wanted of some, in this order; beside an error none.
func wants(t *testing.T, l, want []api.Zone, e api.Errno) {
	t.Helper()
	got, f := zset.Of(l)
	told(t, "Of", got, f, want, e, few(l))
}

// joins fails, unless the union of both is just these; beside an error none.
func joins(t *testing.T, a, b, want []api.Zone, e api.Errno) {
	t.Helper()
	got, f := zset.Or(a, b)
	told(t, "Or", got, f, want, e, few(a), few(b))
}

// meets fails, unless what both have in common is just these; beside an error none.
func meets(t *testing.T, a, b, want []api.Zone, e api.Errno) {
	t.Helper()
	got, f := zset.And(a, b)
	told(t, "And", got, f, want, e, few(a), few(b))
}

// comes fails, unless both compose to just these; beside an error to none.
func comes(t *testing.T, a, b, want []api.Zone, e api.Errno) {
	t.Helper()
	got, f := zset.Comp(a, b)
	told(t, "Comp", got, f, want, e, few(a), few(b))
}

// cuts fails, unless what some have within a span is just these; beside an error none.
func cuts(t *testing.T, l []api.Zone, s api.Span, want []api.Zone, e api.Errno) {
	t.Helper()
	got, f := zset.Within(l, s)
	told(t, "Within", got, f, want, e, few(l), s)
}

// opens fails, unless what some have in a window is just these; beside an error none.
func opens(t *testing.T, l []api.Zone, low, high int, want []api.Zone, e api.Errno) {
	t.Helper()
	got, f := zset.Window(l, low, high)
	told(t, "Window", got, f, want, e, few(l), low, high)
}

// told fails, unless a call answered just these, in this order; beside an error none.
func told(t *testing.T, name string, got []api.Zone, e api.Errno, want []api.Zone, wanted api.Errno, of ...any) {
	t.Helper()
	if !slices.Equal(got, want) || e != wanted {
		t.Fatalf("%s%v = %v, %d, want %v, %d", name, of, few(got), e, few(want), wanted)
	}
}

// areIn fails, unless that is told of whether some lie in others; beside an error they do not.
func areIn(t *testing.T, a, b []api.Zone, want bool, e api.Errno) {
	t.Helper()
	if is, f := zset.In(a, b); is != want || e != f {
		t.Fatalf("In(%v, %v) = %t, %d, want %t, %d", few(a), few(b), is, f, want, e)
	}
}

// areSame fails, unless that is told of whether both have the same pairs; beside an error they have not.
func areSame(t *testing.T, a, b []api.Zone, want bool, e api.Errno) {
	t.Helper()
	if is, f := zset.Same(a, b); is != want || e != f {
		t.Fatalf("Same(%v, %v) = %t, %d, want %t, %d", few(a), few(b), is, f, want, e)
	}
}

// has fails, unless that is told of whether a point is in one of some; beside an error it is not.
func has(t *testing.T, l []api.Zone, p api.Point, want bool, e api.Errno) {
	t.Helper()
	if is, f := zset.Has(l, p); is != want || e != f {
		t.Fatalf("Has(%v, %v) = %t, %d, want %t, %d", few(l), p, is, f, want, e)
	}
}
