package zset_test

import (
	"slices"
	"testing"

	"rallentando/api"
	"rallentando/sample"
)

// both fails, unless that is told of whether each of two lies in the other one, by In and by Same, in whatever order each stands.
func both(t *testing.T, a, b []api.Zone, there, back bool) {
	t.Helper()
	turned := slices.Clone(b)
	slices.Reverse(turned)
	for _, other := range [][]api.Zone{b, turned, slices.Concat(b, turned)} {
		areIn(t, a, other, there, api.OK)
		areIn(t, other, a, back, api.OK)
		areSame(t, a, other, there && back, api.OK)
		areSame(t, other, a, there && back, api.OK)
	}
}

func TestInAndSame(t *testing.T) { // P13.4
	side := from(0, 4)
	both(t, nil, nil, true, true)
	both(t, zones(), nil, true, true)
	for _, c := range lists() {
		both(t, c[0], c[0], true, true)
		both(t, c[0], c[1], true, true)
		both(t, nil, c[0], true, len(c[0]) == 0)
	}
	// One lies in the other one.
	both(t, zones(first), zones(first, second), true, false)
	both(t, zones(first, second), zones(broad), true, false)
	both(t, zones(point, one(2, 3), far), zones(far, whole), true, false)
	both(t, zones(square(below(0, 4), side)), zones(broad), true, false)
	both(t, zones(square(from(1, 3), side)), zones(square(from(0, 2), side), square(from(2, 4), side)), true, false)
	both(t, zones(broad, far), zones(all), true, false)
	// Neither does: with pairs that both have, and with none.
	both(t, zones(first), zones(second), false, false)
	both(t, zones(first, far), zones(whole), false, false)
	both(t, zones(point, one(9, 9)), zones(point, one(9, 8)), false, false)
	both(t, zones(square(side, from(0, 1))), zones(square(side, from(2, 4)), far), false, false)
	both(t, zones(square(below(0, 2), side), square(above(2, 4), side)), zones(square(from(2, 2), side)), false, false)
	// Both do, and are unlike, though both are as they have to be.
	for _, c := range [][2][]api.Zone{
		{zones(whole), zones(first, second)},
		{zones(square(from(0, 2), side), square(from(2, 4), side)), zones(square(side, from(0, 2)), square(side, from(2, 4)))},
		{zones(square(from(0, 2), side), square(from(2, 4), side)), zones(square(from(0, 1), side), square(from(1, 4), side))},
		{zones(square(below(0, 2), side), square(from(2, 4), side)), zones(square(from(0, 2), side), square(above(2, 4), side))},
		{zones(differing(from(0, 2)), differing(above(2, 4))), zones(differing(from(0, 4)))},
	} {
		if slices.Equal(c[0], c[1]) {
			t.Fatal(c)
		}
		checks(t, c[0], api.OK)
		checks(t, c[1], api.OK)
		both(t, c[0], c[1], true, true)
	}
}

func TestInAndSameWithErrors(t *testing.T) { // P13.4
	lies := put(put(all, 4, most(0)), 5, most(0)) // u - t 0: covered by beyond
	areIn(t, zones(upper), zones(beyond), false, api.ErrBad)
	areIn(t, zones(lies, upper), zones(beyond), false, api.ErrBad)
	areIn(t, zones(all, upper), zones(beyond), false, api.OK)
	areSame(t, zones(upper), zones(beyond), false, api.ErrBad)
	areSame(t, zones(lies, upper), zones(beyond), false, api.ErrBad)
	areSame(t, zones(all, upper), zones(beyond), false, api.OK)
	// The way back is asked only if the one there is so; then its error is told.
	areIn(t, zones(lies), zones(beyond, upper), true, api.OK)
	areIn(t, zones(beyond, upper), zones(lies), false, api.OK)
	areSame(t, zones(lies), zones(beyond, upper), false, api.OK)
	areIn(t, zones(beyond), zones(beyond, upper), true, api.OK)
	areIn(t, zones(beyond, upper), zones(beyond), false, api.ErrBad)
	areSame(t, zones(beyond), zones(beyond, upper), false, api.ErrBad)
	areSame(t, zones(beyond, upper), zones(beyond), false, api.ErrBad)
	late := put(all, 1, less(-edge)) // t above 2^58
	areIn(t, zones(late, beyond), zones(upper), false, api.OK)
	areIn(t, zones(upper), zones(late, beyond), false, api.ErrBad)
	areSame(t, zones(late, beyond), zones(upper), false, api.OK)
	areSame(t, zones(upper), zones(late, beyond), false, api.ErrBad)
	// What is too much on the way.
	areIn(t, net()[:1], net()[1:], false, api.ErrMany)
	areIn(t, net()[1:], net()[:1], true, api.OK)
	areSame(t, net()[:1], net()[1:], false, api.ErrMany)
	areSame(t, net()[1:], net()[:1], false, api.ErrMany)
	areSame(t, append(zones(far), net()[0]), net()[1:], false, api.OK)
}

func TestInAndSameByTheWords(t *testing.T) { // P13.4
	count := map[string]map[any]int{"In": {}, "Same": {}}
	unasked := 0
	for _, l := range [][]api.Zone{slices.Concat(every(41, small()), narrow(), stuff), append(every(7, wide()), stuff...), slices.Concat(every(31, wide()), stuck(), asked(), zones(upper, beyond, long, all))} {
		for i := range 4000 {
			a, b := picked(l, i, i%4+1), picked(l, i*3+1, i%5)
			if i%3 > 0 {
				b = append(b, a[:len(a)-i%2]...)
			}
			if i%6 == 1 {
				a = append(a, b...)
			}
			is, e := sample.AllCovered(a, b)
			areIn(t, a, b, is, e)
			same, f := sameByWords(a, b)
			areSame(t, a, b, same, f)
			count["In"][e]++
			count["In"][is]++
			count["Same"][f]++
			count["Same"][same]++
			if _, g := sample.AllCovered(b, a); f == api.OK && g != api.OK {
				unasked++
			}
		}
	}
	for name, n := range count {
		if n[true] < 500 || n[false] < 500 || n[api.OK] < 500 || n[api.ErrBad] < 500 {
			t.Error(name, n, "are too few to tell")
		}
	}
	if unasked < 100 {
		t.Error(unasked, "errors that are not asked for are too few to tell")
	}
}

func TestHas(t *testing.T) { // P13.4
	for _, p := range []api.Point{pair(0, 0), pair(1, 2), at(1, 2), pair(1<<61, -1<<61), {T: sample.By(1, 1<<20), U: sample.By(-1, 1<<20-1)}} {
		has(t, nil, p, false, api.OK)
		has(t, zones(), p, false, api.OK)
		has(t, zones(all), p, true, api.OK)
		has(t, zones(far, all), p, true, api.OK)
		has(t, zones(far, all, far), p, true, api.OK)
		has(t, zones(far, one(9, 9)), p, false, api.OK)
	}
	// In none, in the first one, in one between, in the last one, in all.
	l := zones(first, box, second)
	has(t, l, pair(0, 0), false, api.OK)
	has(t, l, pair(9, 9), false, api.OK)
	has(t, l, pair(0, 4), true, api.OK)
	has(t, l, at(4*2-1, 4*3), true, api.OK)
	has(t, l, pair(3, 4), true, api.OK)
	has(t, l, pair(1, 2), true, api.OK)
	has(t, zones(one(1, 1), one(1, 2), one(1, 3)), pair(1, 2), true, api.OK)
	has(t, zones(one(1, 1), one(1, 2), one(1, 3)), pair(2, 1), false, api.OK)
	has(t, zones(one(1, 1), one(2, 2), one(3, 3)), at(3*4-1, 3*4), false, api.OK)
	// At ends that are in, and out.
	l = zones(square(below(0, 2), from(0, 4)), square(above(2, 4), from(0, 4)))
	has(t, l, pair(2, 2), false, api.OK)
	has(t, l, at(2*4-1, 2*4), true, api.OK)
	has(t, l, at(2*4+1, 2*4), true, api.OK)
	has(t, append(l, square(from(2, 2), from(0, 4))), pair(2, 2), true, api.OK)
	// Lists need not be as they have to be.
	has(t, zones(whole, first, whole), pair(3, 4), true, api.OK)
	has(t, times(api.MaxList, first), pair(0, 4), true, api.OK)
	has(t, times(api.MaxList, first), pair(3, 4), false, api.OK)
	has(t, append(times(api.MaxList-1, first), second), pair(3, 4), true, api.OK)
}

func TestHasOfTimesThatMayNotBe(t *testing.T) { // P13.4, P1
	for _, bad := range badTimes() {
		for _, l := range [][]api.Zone{nil, zones(), zones(all), zones(far), zones(whole, first), zones(far, all), zones(one(0, 0), one(0, 1), all)} {
			for _, x := range append(badTimes(), sample.By(0, 1), sample.By(1, 1), sample.By(3, 2)) {
				has(t, l, api.Point{T: bad, U: x}, false, api.ErrBad)
				has(t, l, api.Point{T: x, U: bad}, false, api.ErrBad)
			}
		}
	}
}
