package cover_test

import (
	"slices"
	"testing"

	"rallentando/api"
	"rallentando/sample"
	"rallentando/zone"
)

// cut are a net's columns and rows, and one zone more, by which too many would be left of its square.
func cut() (a api.Zone, l []api.Zone) {
	a, columns, rows := sample.Net()
	return a, slices.Concat(columns, rows, zones(sample.Cut(63, 0)))
}

func TestZonesThatMayNotBe(t *testing.T) { // P12.1, P12.2, P12.3, P1
	for _, bad := range wrong() {
		// The one that is asked about, by any, also by one that covers all.
		for _, l := range [][]api.Zone{nil, zones(all), zones(whole, first), zones(bad), zones(all, bad)} {
			refused(t, bad, l, api.ErrBad)
			areIn(t, zones(whole, bad), l, false, api.ErrBad)
			areIn(t, zones(first, bad, whole), l, false, api.ErrBad)
			// Behind one that is not covered.
			areIn(t, zones(broad, broad, bad), l, false, api.ErrBad)
		}
		for _, z := range zones(all, whole, point, upper) {
			// The first one, one between, the last one; and behind those that tell the answer already.
			for _, l := range [][]api.Zone{zones(bad), zones(bad, first, second), zones(first, bad, second), zones(first, second, bad), zones(z, bad), zones(all, bad), zones(bad, all), zones(z, z, bad, z), zones(far, bad, bad), append(make([]api.Zone, 0, 9), first, bad)} {
				refused(t, z, l, api.ErrBad)
				areIn(t, zones(z, z), l, false, api.ErrBad)
				areIn(t, nil, l, false, api.ErrBad)
				areIn(t, zones(), l, false, api.ErrBad)
				wants(t, l, nil, api.ErrBad)
				wants(t, append(zones(z), l...), nil, api.ErrBad)
			}
		}
		wants(t, zones(bad, bad), nil, api.ErrBad)
		wants(t, append(times(9, all), bad), nil, api.ErrBad)
	}
	// What stands behind the end is none of them.
	l := zones(first, second, api.Zone{}, put(all, 0, -7*edge))[:2]
	isIn(t, whole, l, true, api.OK)
	areIn(t, l, l, true, api.OK)
	wants(t, l, zones(first, second), api.OK)
	shows(t, whole, l, api.Point{}, api.ErrNone)
}

func TestListsThatAreTooLong(t *testing.T) { // P12.1, P12.2, P12.3, P1
	full, long := times(api.MaxList, first), times(api.MaxList+1, first)
	isIn(t, first, full, true, api.OK)
	isIn(t, whole, full, false, api.OK)
	isIn(t, first, long, false, api.ErrMany)
	isIn(t, whole, long, false, api.ErrMany)
	isIn(t, whole, append(slices.Clone(full[1:]), second), true, api.OK)
	isIn(t, whole, append(slices.Clone(full), second), false, api.ErrMany)
	isIn(t, whole, times(4*api.MaxList, whole), false, api.ErrMany)
	shows(t, first, full, api.Point{}, api.ErrNone)
	shows(t, whole, full, api.Point{T: sample.By(5, 2), U: sample.By(4, 1)}, api.OK)
	shows(t, first, long, api.Point{}, api.ErrMany)
	shows(t, whole, long, api.Point{}, api.ErrMany)
	shows(t, whole, append(slices.Clone(full[1:]), second), api.Point{}, api.ErrNone)
	// Of a longer one what is handed in counts alone.
	isIn(t, first, long[:api.MaxList], true, api.OK)
	shows(t, whole, long[1:], api.Point{T: sample.By(5, 2), U: sample.By(4, 1)}, api.OK)
	wants(t, long[:api.MaxList], zones(first), api.OK)
	// However often one stands there, it counts.
	wants(t, full, zones(first), api.OK)
	wants(t, long, nil, api.ErrMany)
	wants(t, append(slices.Clone(full[1:]), second), zones(first, second), api.OK)
	wants(t, append(slices.Clone(full), second), nil, api.ErrMany)
}

func TestTwoListsThatAreTooLong(t *testing.T) { // P12.1, P1
	full, long := times(api.MaxList, first), times(api.MaxList+1, first)
	areIn(t, full, zones(whole), true, api.OK)
	areIn(t, append(slices.Clone(full[1:]), second), zones(first), false, api.OK)
	areIn(t, zones(first, first), full, true, api.OK)
	areIn(t, zones(first, whole), full, false, api.OK)
	areIn(t, nil, full, true, api.OK)
	areIn(t, full, nil, false, api.OK)
	areIn(t, times(api.MaxList, whole), full, false, api.OK)
	// The first one, the second one, both.
	areIn(t, long, nil, false, api.ErrMany)
	areIn(t, long, zones(whole), false, api.ErrMany)
	areIn(t, long, zones(far), false, api.ErrMany)
	areIn(t, long, full, false, api.ErrMany)
	areIn(t, nil, long, false, api.ErrMany)
	areIn(t, zones(first), long, false, api.ErrMany)
	areIn(t, zones(whole), long, false, api.ErrMany)
	areIn(t, full, long, false, api.ErrMany)
	areIn(t, long, long, false, api.ErrMany)
}

func TestTooLongIsToldFirst(t *testing.T) { // P12.1, P12.2, P12.3
	long, bad := times(api.MaxList+1, first), api.Zone{}
	ahead, behind := append(zones(bad), long...), append(slices.Clone(long), bad)
	for _, l := range [][]api.Zone{long, ahead, behind, times(api.MaxList+1, bad)} {
		for _, z := range zones(first, whole, bad) {
			refused(t, z, l, api.ErrMany)
		}
		wants(t, l, nil, api.ErrMany)
		// One of the two lists is too long, and a zone of either may not be.
		for _, other := range [][]api.Zone{nil, zones(bad), zones(whole, bad), l} {
			areIn(t, l, other, false, api.ErrMany)
			areIn(t, other, l, false, api.ErrMany)
		}
	}
	// MaxList with one that may not be are not too long.
	for _, l := range [][]api.Zone{append(slices.Clone(long[2:]), bad), append(zones(bad), long[2:]...)} {
		refused(t, first, l, api.ErrBad)
		areIn(t, l, zones(all), false, api.ErrBad)
		wants(t, l, nil, api.ErrBad)
	}
}

func TestWhatIsAskedOnTheWay(t *testing.T) { // P12.1, P12.2, P12.3
	a, columns, rows := sample.Net()
	isIn(t, a, slices.Concat(columns, rows), false, api.OK)
	_, l := cut()
	refused(t, a, l, api.ErrMany)
	// Whatever covers it behind that, or ahead.
	refused(t, a, append(slices.Clone(l), a), api.ErrMany)
	isIn(t, a, append(zones(a), l...), true, api.OK)
	shows(t, a, append(zones(a), l...), api.Point{}, api.ErrNone)
	refused(t, upper, zones(beyond), api.ErrBad)
	refused(t, upper, zones(beyond, all), api.ErrBad)
	isIn(t, upper, zones(all, beyond), true, api.OK)
	shows(t, upper, zones(upper, beyond), api.Point{}, api.ErrNone)
	// Which of both comes first: at steps that are in the one order, or in the other one.
	for _, sign := range []int{1, -1} {
		a, lines := sample.Lattice(64, 64, sign)
		with := func(l ...api.Zone) []api.Zone { return append(slices.Clone(lines), l...) }
		isIn(t, a, lines, false, api.OK)
		refused(t, a, with(one(sign*4, -sign*4), sample.Line(sign)), api.ErrMany)
		refused(t, a, with(sample.Line(sign), one(sign*4, -sign*4)), api.ErrBad)
		// A zone that may not be, and a list that is too long, are told ahead of both.
		refused(t, a, with(one(sign*4, -sign*4), api.Zone{}), api.ErrBad)
		refused(t, a, append(zones(sample.Line(sign)), times(api.MaxList, all)...), api.ErrMany)
	}
	refused(t, a, append(slices.Clone(l), api.Zone{}), api.ErrBad)
	areIn(t, zones(a, api.Zone{}), l, false, api.ErrBad)
}

func TestWhatPruneAsksOnTheWay(t *testing.T) { // P12.2
	a, l := cut()
	net := append(slices.Clone(l), a)
	lines := l[:len(l)-1]
	wants(t, lines, slices.SortedFunc(slices.Values(lines), zone.Cmp), api.OK)
	wants(t, net, nil, api.ErrMany)
	slices.Reverse(net)
	wants(t, net, nil, api.ErrMany)
	wants(t, append(slices.Clone(net), net...), nil, api.ErrMany)
	// Without the one that is too many the square stays, and all that lie in it go.
	a, columns, rows := sample.Net()
	wants(t, slices.Concat(columns, zones(a), rows), zones(a), api.OK)
	// Two that stand ahead of the net, and two that stand behind it, of which the one asked by the other one would tell ErrBad.
	early := zones(put(put(all, 0, most(-20)), 2, most(5)), starting(from(-edge, -10)))
	late := zones(starting(from(200, edge)), api.Zone{none, most(-300), none, none, most(1), none})
	wants(t, early, nil, api.ErrBad)
	wants(t, late, nil, api.ErrBad)
	stands(t, early[1], append(slices.Clone(early), net...), 1)
	stands(t, late[0], append(slices.Clone(late), net...), len(net))
	// The one that stands last is asked first.
	wants(t, slices.Concat(early, net), nil, api.ErrMany)
	wants(t, slices.Concat(net, early), nil, api.ErrMany)
	wants(t, slices.Concat(net, late), nil, api.ErrBad)
	wants(t, slices.Concat(late, net), nil, api.ErrBad)
	wants(t, slices.Concat(early, net, late), nil, api.ErrBad)
	wants(t, slices.Concat(early, net, zones(api.Zone{})), nil, api.ErrBad)
	wants(t, append(slices.Clone(late), times(api.MaxList, all)...), nil, api.ErrMany)
}

func TestMaxLeftZonesOnTheWay(t *testing.T) { // P12.1, P12.2, P12.3
	// That many columns leave one zone more of what they stand in, unless one of them stands at its end.
	column := func(i int) api.Zone { return starting(from(2*i, 2*i)) }
	var columns []api.Zone
	for i := range api.MaxList {
		columns = append(columns, column(i))
	}
	isIn(t, starting(from(-1, 9000)), columns, false, api.ErrMany)
	isIn(t, starting(from(-1, 9000)), columns[1:], false, api.OK)
	shows(t, starting(from(0, 9000)), columns, sample.Whole(9000, 0), api.OK)
	isIn(t, starting(from(-1, 9000)), append(columns[1:], starting(from(-1, 9000))), true, api.OK)
}

func TestPruneMaxListZones(t *testing.T) { // P12.2, P1
	// In two rows each lies in the next one; each stands there twice.
	var l []api.Zone
	for i := range api.MaxList / 4 {
		l = append(l, starting(from(0, i)), starting(from(9000, 9000+i)))
	}
	wants(t, slices.Concat(l, l), l[len(l)-2:], api.OK)
	wants(t, slices.Concat(l, l, zones(far)), nil, api.ErrMany)
}
