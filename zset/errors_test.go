package zset_test

import (
	"slices"
	"testing"

	"rallentando/api"
)

// refused2 fails, unless all calls of two lists tell this error of both, and nothing beside it.
func refused2(t *testing.T, a, b []api.Zone, e api.Errno) {
	t.Helper()
	joins(t, a, b, nil, e)
	meets(t, a, b, nil, e)
	comes(t, a, b, nil, e)
	areIn(t, a, b, false, e)
	areSame(t, a, b, false, e)
}

// refused1 fails, unless all calls of one list tell this error of it, whatever else is handed in; Check tells ErrBad of any.
func refused1(t *testing.T, l []api.Zone, e api.Errno) {
	t.Helper()
	checks(t, l, api.ErrBad)
	wants(t, l, nil, e)
	for _, s := range []api.Span{up(0), from(-9, 9), above(1, 1), from(1, 0), on(edge + 1)} {
		cuts(t, l, s, nil, e)
	}
	for _, w := range [][2]int{{0, 1}, {-edge, edge}, {3, 3}, {0, edge + 1}} {
		opens(t, l, w[0], w[1], nil, e)
	}
	for _, p := range []api.Point{pair(1, 2), at(1, 3), pair(99, 99), {}, {T: api.Rat{Num: 2, Den: 4}, U: api.Rat{Num: 1, Den: 1}}} {
		has(t, l, p, false, e)
	}
}

func TestZonesThatMayNotBe(t *testing.T) { // P13.1, P13.2, P13.3, P13.4, P1
	for _, bad := range wrong() {
		// The first one, one between, the last one, alone, twice, behind those that tell the answer already.
		for _, l := range [][]api.Zone{zones(bad), zones(bad, first, second), zones(first, bad, second), zones(first, second, bad), zones(bad, bad), zones(all, bad), zones(point, all, bad), zones(upper, beyond, bad), append(make([]api.Zone, 0, 9), first, bad)} {
			refused1(t, l, api.ErrBad)
			for _, other := range [][]api.Zone{nil, zones(whole), zones(first, second), zones(far), zones(all), zones(bad)} {
				refused2(t, l, other, api.ErrBad)
				refused2(t, other, l, api.ErrBad)
			}
		}
	}
	// Behind what would be told otherwise: one that is not covered, a pair that has an error, too many that would come.
	bad := api.Zone{}
	refused2(t, zones(all, bad), zones(first), api.ErrBad)
	refused2(t, zones(first), zones(far, bad), api.ErrBad)
	refused2(t, zones(upper, bad), zones(beyond), api.ErrBad)
	refused2(t, zones(whole, whole, bad), times(api.MaxList, whole), api.ErrBad)
	refused2(t, zones(whole, whole), append(times(api.MaxList-1, whole), bad), api.ErrBad)
	refused2(t, append(net(), bad), zones(all), api.ErrBad)
	refused2(t, zones(all), append(net(), bad), api.ErrBad)
	refused1(t, append(net(), bad), api.ErrBad)
	// What stands behind the end is none of them.
	l := zones(first, second, bad, put(all, 0, -7*edge))[:2]
	joins(t, l, l, l, api.OK)
	meets(t, l, l, zones(first, second), api.OK)
	comes(t, l, zones(differing(from(0, 0))), l, api.OK)
	cuts(t, l, up(0), l, api.OK)
	opens(t, l, -1, 9, l, api.OK)
	areIn(t, l, l, true, api.OK)
	areSame(t, zones(whole), l, true, api.OK)
	has(t, l, pair(9, 9), false, api.OK)
}

func TestListsThatAreTooLong(t *testing.T) { // P13.1, P13.2, P13.3, P13.4, P1
	full, tooLong := times(api.MaxList, first), times(api.MaxList+1, first)
	for _, other := range [][]api.Zone{nil, zones(), zones(first), zones(far), full, tooLong, times(3*api.MaxList, first)} {
		refused2(t, tooLong, other, api.ErrMany)
		refused2(t, other, tooLong, api.ErrMany)
	}
	refused1(t, tooLong, api.ErrMany)
	refused1(t, times(3*api.MaxList, far), api.ErrMany)
	// MaxList zones are not too many.
	cuts(t, full, up(0), zones(first), api.OK)
	cuts(t, full, from(1, 2), zones(over(from(0, 1), from(1, 3), from(1, 2))), api.OK)
	cuts(t, full, from(1, 0), nil, api.ErrBad)
	opens(t, full, -1, 9, zones(first), api.OK)
	opens(t, full, 7, 9, nil, api.OK)
	opens(t, full, 7, 7, nil, api.ErrArg)
	areIn(t, full, zones(first), true, api.OK)
	areIn(t, full, zones(second), false, api.OK)
	areIn(t, zones(first), full, true, api.OK)
	areIn(t, nil, full, true, api.OK)
	areIn(t, full, nil, false, api.OK)
	areSame(t, full, zones(first), true, api.OK)
	areSame(t, zones(whole), full, false, api.OK)
	has(t, full, pair(0, 1), true, api.OK)
	has(t, full, pair(2, 3), false, api.OK)
	// Of a longer one what is handed in counts alone.
	cuts(t, tooLong[1:], up(0), zones(first), api.OK)
	has(t, tooLong[:api.MaxList], pair(0, 1), true, api.OK)
	joins(t, tooLong[:api.MaxList], nil, zones(first), api.OK)
}

func TestTooLongIsToldFirst(t *testing.T) { // P13.1, P13.2, P13.3, P13.4
	tooLong, bad := times(api.MaxList+1, first), api.Zone{}
	for _, l := range [][]api.Zone{tooLong, append(zones(bad), tooLong...), append(slices.Clone(tooLong), bad), times(api.MaxList+1, bad)} {
		refused1(t, l, api.ErrMany)
		// One of both is too long, and a zone of either may not be.
		for _, other := range [][]api.Zone{zones(bad), zones(whole, bad), append(times(api.MaxList-1, first), bad), l} {
			refused2(t, l, other, api.ErrMany)
			refused2(t, other, l, api.ErrMany)
		}
	}
	// MaxList with one that may not be are not too long.
	for _, l := range [][]api.Zone{append(slices.Clone(tooLong[2:]), bad), append(zones(bad), tooLong[2:]...)} {
		refused1(t, l, api.ErrBad)
		refused2(t, l, zones(first), api.ErrBad)
		refused2(t, zones(first), l, api.ErrBad)
		refused2(t, l, l, api.ErrBad)
	}
}
