package zset_test

import (
	"slices"
	"testing"

	"rallentando/api"
	"rallentando/sample"
	"rallentando/zone"
)

func TestExamples(t *testing.T) { // P13.1, P13.2, P13.4
	orders(zones(first, second, whole), func(l []api.Zone) {
		for n := range 4 {
			joins(t, l[:n], l[n:], zones(first, second), api.OK)
		}
	})
	meets(t, zones(first), zones(second), zones(over(from(1, 1), from(0, 4), up(0))), api.OK)
	areSame(t, zones(whole), zones(first, second), true, api.OK)
	checks(t, zones(first, whole), api.ErrBad)
	comes(t, zones(first), zones(second), zones(over(from(0, 1), above(1, 4), up(0))), api.OK)
}

// lists are some lists, and what is wanted of each.
func lists() [][2][]api.Zone {
	side := from(0, 4)
	low, high := square(from(0, 2), side), square(from(2, 4), side)
	return [][2][]api.Zone{
		{nil, nil},
		{zones(whole), zones(whole)},
		{zones(whole, whole), zones(whole)},
		{zones(whole, first, whole, first), zones(whole)},
		{zones(first, second), zones(first, second)},
		{zones(second, first, second), zones(first, second)},
		{zones(first, second, whole), zones(first, second)},
		{zones(point, first), zones(first)},
		{zones(broad, whole, first, point), zones(broad)},
		{zones(low, high), zones(low, high)},
		{zones(low, high, broad), zones(low, high)},
		{zones(low, square(from(1, 3), side), high), zones(low, high)},
		{zones(square(from(1, 3), side), low), zones(low, square(from(1, 3), side))},
		{zones(one(3, 1), one(1, 1), one(2, 5)), zones(one(1, 1), one(2, 5), one(3, 1))},
		{zones(one(1, 5), one(1, 4), one(1, 6), one(1, 4)), zones(one(1, 4), one(1, 5), one(1, 6))},
		{zones(differing(from(0, 2)), differing(above(2, 4)), differing(from(1, 3))), zones(differing(from(0, 2)), differing(above(2, 4)))},
		{zones(all, far, upper, point), zones(all)},
		{zones(starting(below(-edge, 0)), starting(above(0, edge)), starting(from(-edge, edge))), zones(starting(from(-edge, edge)))},
	}
}

func TestCheckAndOf(t *testing.T) { // P13.1, P13.6
	checks(t, zones(), api.OK)
	wants(t, zones(), nil, api.OK)
	for _, c := range lists() {
		checks(t, c[1], api.OK)
		wants(t, c[1], c[1], api.OK)
		orders(c[0], func(l []api.Zone) {
			wants(t, l, c[1], api.OK)
			e := api.ErrBad
			if slices.Equal(l, c[1]) {
				e = api.OK
			}
			checks(t, l, e)
		})
		wants(t, slices.Concat(c[0], c[1], c[0]), c[1], api.OK)
		if len(c[1]) > 0 {
			// One of it that stands there twice is too much, wherever it stands.
			checks(t, append(zones(c[1][0]), c[1]...), api.ErrBad)
			checks(t, slices.Concat(c[1], c[1]), api.ErrBad)
			checks(t, append(slices.Clone(c[1]), c[1][len(c[1])-1]), api.ErrBad)
		}
	}
}

func TestCheckAndOfOneZone(t *testing.T) { // P13.1
	for _, z := range slices.Concat(every(7, small()), every(7, wide()), stuff) {
		checks(t, zones(z), api.OK)
		checks(t, zones(z, z), api.ErrBad)
		wants(t, zones(z), zones(z), api.OK)
		wants(t, zones(z, z), zones(z), api.OK)
	}
	// With all pairs, which cover it, ahead or behind.
	for _, z := range append(every(7, small()), box, point, far, whole, first) {
		checks(t, zones(z, all), api.ErrBad)
		checks(t, zones(all, z), api.ErrBad)
		wants(t, zones(z, all), zones(all), api.OK)
	}
	for _, bad := range wrong() {
		for _, l := range [][]api.Zone{zones(bad), zones(bad, first, second), zones(first, bad, second), zones(first, second, bad), zones(bad, bad), zones(all, bad), zones(whole, whole, bad)} {
			checks(t, l, api.ErrBad)
			wants(t, l, nil, api.ErrBad)
		}
	}
	// What stands behind the end is none of them.
	l := zones(first, second, api.Zone{}, first)[:2]
	checks(t, l, api.OK)
	wants(t, l, zones(first, second), api.OK)
}

func TestOfWhatIsAskedOnTheWay(t *testing.T) { // P13.1
	orders(zones(upper, beyond), func(l []api.Zone) {
		checks(t, l, api.ErrBad)
		wants(t, l, nil, api.ErrBad)
		wants(t, append(l, all), nil, api.ErrBad)
	})
	// What is too much on the way is no list as it has to be, though it is in order; and of it Of tells ErrMany, Check ErrBad.
	for _, l := range [][]api.Zone{net(), slices.SortedFunc(slices.Values(net()), zone.Cmp)} {
		wants(t, l, nil, api.ErrMany)
		checks(t, l, api.ErrBad)
	}
	// What is wanted of what is wanted is not told of these: so no list is as it has to be.
	wants(t, stuck(), stuck()[:2], api.OK)
	wants(t, stuck()[:2], nil, api.ErrBad)
	checks(t, stuck(), api.ErrBad)
	checks(t, stuck()[:2], api.ErrBad)
}

// net is a square without its sides, and what cuts it into too many zones.
func net() []api.Zone {
	a, columns, rows := sample.Net()
	return slices.Concat(zones(a), columns, rows, zones(sample.Cut(63, 0)))
}

// stuck are three of which the first two are wanted; asked by one another alone these have too great numbers.
func stuck() []api.Zone {
	return zones(api.Zone{most(0), none, none, most(0), none, most(0)}, api.Zone{less(1), most(edge), less(edge), less(edge), less(edge), most(0)}, api.Zone{most(0), most(edge), none, most(0), none, less(0)})
}

// columns are so many zones that have nothing in common, in order.
func columns(n int) []api.Zone {
	var l []api.Zone
	for i := range n {
		l = append(l, starting(from(2*i, 2*i+1)))
	}
	return l
}

func TestMaxListZones(t *testing.T) { // P13.1, P1
	t.Parallel()
	l := columns(api.MaxList)
	checks(t, l, api.OK)
	checks(t, append(slices.Clone(l), starting(from(9000, 9001))), api.ErrBad)
	wants(t, append(slices.Clone(l), starting(from(9000, 9001))), nil, api.ErrMany)
}

func TestCheckAndOfListsThatAreTooLong(t *testing.T) { // P13.1, P1
	full, tooLong := times(api.MaxList, first), times(api.MaxList+1, first)
	wants(t, full, zones(first), api.OK)
	wants(t, append(slices.Clone(full[1:]), second), zones(first, second), api.OK)
	wants(t, tooLong, nil, api.ErrMany)
	wants(t, tooLong[1:], zones(first), api.OK)
	for _, l := range [][]api.Zone{full, tooLong, times(2*api.MaxList, first), append(slices.Clone(full), api.Zone{}), times(api.MaxList+1, api.Zone{})} {
		checks(t, l, api.ErrBad)
	}
	for _, l := range [][]api.Zone{append(slices.Clone(full), api.Zone{}), append(zones(api.Zone{}), full...), times(api.MaxList+1, api.Zone{})} {
		wants(t, l, nil, api.ErrMany)
	}
	wants(t, append(slices.Clone(full[1:]), api.Zone{}), nil, api.ErrBad)
}

func TestOr(t *testing.T) { // P13.2
	joins(t, nil, nil, nil, api.OK)
	joins(t, zones(), zones(), nil, api.OK)
	for _, c := range lists() {
		joins(t, c[0], nil, c[1], api.OK)
		joins(t, nil, c[0], c[1], api.OK)
		joins(t, c[0], zones(), c[1], api.OK)
		joins(t, c[0], c[0], c[1], api.OK)
		joins(t, c[0], c[1], c[1], api.OK)
		for n := range len(c[0]) + 1 {
			joins(t, c[0][:n], c[0][n:], c[1], api.OK)
			joins(t, c[0][n:], c[0][:n], c[1], api.OK)
		}
	}
	joins(t, zones(upper), zones(beyond), nil, api.ErrBad)
	joins(t, zones(beyond), zones(upper), nil, api.ErrBad)
	joins(t, zones(upper, all), zones(beyond), nil, api.ErrBad)
	joins(t, net()[:70], net()[70:], nil, api.ErrMany)
}

func TestOrOfTooManyTogether(t *testing.T) { // P13.2, P1
	some := func(n int) []api.Zone { return times(n, first) }
	for _, n := range []int{0, 1, 2, api.MaxList / 2, api.MaxList - 1, api.MaxList} {
		joins(t, some(n), some(api.MaxList-n), zones(first), api.OK)
		joins(t, some(n), append(some(api.MaxList-n), second), nil, api.ErrMany)
		joins(t, append(some(n), second), some(api.MaxList-n), nil, api.ErrMany)
		// Together they are too many; but a zone that may not be is told ahead of that, if neither is too long by itself.
		if n > 0 {
			joins(t, append(some(n-1), api.Zone{}), some(api.MaxList), nil, api.ErrBad)
			joins(t, some(api.MaxList), append(some(n-1), api.Zone{}), nil, api.ErrBad)
		}
	}
	for _, l := range [][]api.Zone{nil, zones(first), zones(api.Zone{}), some(api.MaxList), some(api.MaxList + 1)} {
		joins(t, some(api.MaxList+1), l, nil, api.ErrMany)
		joins(t, l, some(api.MaxList+1), nil, api.ErrMany)
	}
	joins(t, some(api.MaxList), some(api.MaxList), nil, api.ErrMany)
}

func TestOrByTheWords(t *testing.T) { // P13.2
	l := slices.Concat(every(23, small()), every(31, wide()), narrow(), stuff, zones(upper, beyond))
	count := map[api.Errno]int{}
	for i := range 10000 {
		a, b := picked(l, i, i%5), picked(l, i*3+1, i%4)
		want, e := wanted(slices.Concat(a, b))
		joins(t, a, b, want, e)
		count[e]++
		if e == api.OK {
			settled(t, want)
		}
	}
	if count[api.OK] < 1000 || count[api.ErrBad] < 1000 {
		t.Error(count, "are too few to tell")
	}
}
