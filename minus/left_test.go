package minus_test

import (
	"slices"
	"testing"

	"rallentando/api"
	"rallentando/minus"
	"rallentando/sample"
)

// first and second are the chapter's zone with t up to 1, and from 1 on.
var (
	first  = over(from(0, 1), from(0, 4), up(0))
	second = over(from(1, 4), from(0, 4), up(0))
)

func TestLeft(t *testing.T) { // P11.1
	for _, z := range slices.Concat(every(7, small()), every(7, wide()), stuff) {
		leaves(t, z, nil, zones(z), api.OK)
		leaves(t, z, zones(), zones(z), api.OK)
		leaves(t, z, zones(z), nil, api.OK)
		leaves(t, z, zones(all), nil, api.OK)
		leaves(t, z, zones(z, z, all, z), nil, api.OK)
	}
	leaves(t, whole, zones(part), zones(over(above(2, 4), from(0, 4), up(0)), over(below(0, 1), from(0, 4), up(0))), api.OK)
	leaves(t, whole, zones(first), zones(over(above(1, 4), from(0, 4), up(0))), api.OK)
	leaves(t, whole, zones(second), zones(over(below(0, 1), from(0, 4), up(0))), api.OK)
	// Together they leave nothing, in any order, also with others behind and between.
	leaves(t, whole, zones(first, second), nil, api.OK)
	leaves(t, whole, zones(second, first), nil, api.OK)
	leaves(t, whole, zones(first, far, point, second, part, far), nil, api.OK)
	leaves(t, whole, zones(far, far), zones(whole), api.OK)
	leaves(t, broad, zones(square(from(0, 2), from(0, 2)), square(from(2, 4), from(2, 4)), square(from(2, 4), from(0, 2)), square(from(0, 2), from(2, 4))), nil, api.OK)
	leaves(t, broad, zones(square(below(0, 2), below(0, 2)), square(above(2, 4), above(2, 4)), square(above(2, 4), below(0, 2)), square(below(0, 2), above(2, 4)), square(from(2, 2), below(0, 2)), square(from(2, 2), above(2, 4)), square(below(0, 2), from(2, 2)), square(above(2, 4), from(2, 2))), zones(one(2, 2)), api.OK)
}

func TestLeftInTwoOrders(t *testing.T) { // P11.1
	// Each zone that is left is cut in its place: the points are the same, the zones are not.
	column, row := square(from(1, 2), from(0, 4)), square(from(0, 4), from(1, 2))
	late, early, high, low := above(2, 4), below(0, 1), above(2, 4), below(0, 1)
	leaves(t, broad, zones(column, row), zones(square(late, high), square(late, low), square(early, high), square(early, low)), api.OK)
	leaves(t, broad, zones(row, column), zones(square(late, high), square(early, high), square(late, low), square(early, low)), api.OK)
	corner, other := one(0, 0), square(from(0, 0), from(0, 4))
	leaves(t, broad, zones(corner, other), zones(square(above(0, 4), from(0, 4))), api.OK)
	leaves(t, broad, zones(other, corner), zones(square(above(0, 4), from(0, 4))), api.OK)
	small, large := one(1, 1), square(from(1, 2), from(1, 2))
	// The small one has no pair of what the large one has left, and yet cuts it: by t, ahead of u.
	leaves(t, broad, zones(large, small), zones(square(late, from(0, 4)), square(early, from(0, 4)), square(above(1, 2), high), square(from(1, 1), high), square(above(1, 2), low), square(from(1, 1), low)), api.OK)
	leaves(t, broad, zones(small, large), zones(square(late, from(0, 4)), square(above(1, 2), high), square(above(1, 2), low), square(early, from(0, 4)), square(from(1, 1), high), square(from(1, 1), low)), api.OK)
}

func TestLeftBySameOneTwice(t *testing.T) { // P11.1
	leaves(t, whole, zones(part, part), zones(over(above(2, 4), from(0, 4), up(0)), over(below(0, 1), from(0, 4), up(0))), api.OK)
	by := slices.Concat(every(59, small()), every(97, wide()), stuff)
	for _, a := range slices.Concat(every(83, small()), every(67, wide()), stuff) {
		for _, b := range by {
			want, e := minus.Minus(a, b)
			leaves(t, a, zones(b, b), want, e)
			leaves(t, a, zones(b, b, b, b), want, e)
		}
	}
	// There may be any number of them.
	leaves(t, whole, slices.Repeat(zones(first), 2*api.MaxLeft), zones(over(above(1, 4), from(0, 4), up(0))), api.OK)
	leaves(t, whole, slices.Repeat(zones(whole), 2*api.MaxList), nil, api.OK)
}

func TestLeftErrors(t *testing.T) { // P11.1, P1
	for _, bad := range wrong() {
		leaves(t, bad, nil, nil, api.ErrBad)
		leaves(t, bad, zones(bad), nil, api.ErrBad)
		for _, z := range zones(all, whole, point, upper) {
			leaves(t, bad, zones(z), nil, api.ErrBad)
			leaves(t, bad, zones(z, z), nil, api.ErrBad)
			// The first one, one between, the last one.
			leaves(t, z, zones(bad), nil, api.ErrBad)
			leaves(t, z, zones(bad, part, first), nil, api.ErrBad)
			leaves(t, z, zones(part, bad, first), nil, api.ErrBad)
			leaves(t, z, zones(first, part, bad), nil, api.ErrBad)
			// Behind one by which nothing is left.
			leaves(t, z, zones(z, bad), nil, api.ErrBad)
			leaves(t, z, zones(all, first, bad), nil, api.ErrBad)
			leaves(t, z, zones(all, bad, first), nil, api.ErrBad)
			leaves(t, z, zones(bad, all), nil, api.ErrBad)
			// In two places, and with room behind.
			leaves(t, z, zones(bad, first, bad), nil, api.ErrBad)
			leaves(t, z, append(make([]api.Zone, 0, 9), first, bad), nil, api.ErrBad)
		}
	}
	// What stands behind the end is none of them.
	leaves(t, whole, zones(part, api.Zone{}, put(all, 0, -7*edge))[:1], zones(over(above(2, 4), from(0, 4), up(0)), over(below(0, 1), from(0, 4), up(0))), api.OK)
}

func TestLeftBeyondMaxConst(t *testing.T) { // P11.1
	beyond := put(all, 4, most(1)) // of t up to 2^58 it comes to u up to 2^58 and 1
	near := starting(on(0))
	leaves(t, upper, zones(beyond), nil, api.ErrBad)
	leaves(t, upper, zones(put(all, 4, most(0))), zones(put(differing(up(0)), 0, most(edge))), api.OK)
	// Behind one that leaves what is near: t below 0.
	leaves(t, upper, zones(near, beyond), zones(api.Zone{less(0), none, none, none, none, less(-1)}), api.OK)
	leaves(t, upper, zones(beyond, near), nil, api.ErrBad)
	// Behind one that leaves nothing.
	leaves(t, upper, zones(upper, beyond), nil, api.OK)
	leaves(t, upper, zones(all, beyond, beyond), nil, api.OK)
	leaves(t, upper, zones(beyond, all), nil, api.ErrBad)
	leaves(t, upper, zones(far, all, beyond), nil, api.OK)
	// In the first zone that is left, and in the second one alone.
	leaves(t, upper, zones(starting(from(1, 2)), beyond), nil, api.ErrBad)
	leaves(t, all, zones(starting(from(1, edge)), put(all, 5, most(-1))), nil, api.ErrBad)
	leaves(t, lower, zones(starting(from(1, 2)), put(all, 5, most(1))), nil, api.ErrBad)
}

// many fails, unless that many zones are left, or unless it is that error.
func many(t *testing.T, a api.Zone, l []api.Zone, want int, wanted api.Errno) {
	t.Helper()
	left, e := minus.Left(a, l)
	if len(left) != want || e != wanted {
		t.Fatalf("Left answers %d zones, %d, want %d, %d", len(left), e, want, wanted)
	}
}

func TestLeftWithMaxLeftZones(t *testing.T) { // P11.1
	// 64 columns of 64 zones each, from the last one down to the first one.
	a, columns, rows := sample.Net()
	cell, cut := sample.Cell, sample.Cut
	with := func(l ...api.Zone) []api.Zone { return slices.Concat(columns, rows, l) }
	var want []api.Zone
	for i := 63; i >= 0; i-- {
		for j := 63; j >= 0; j-- {
			want = append(want, cell(i, j))
		}
	}
	if len(want) != api.MaxLeft {
		t.Fatal(len(want))
	}
	leaves(t, a, with(), want, api.OK)
	leaves(t, a, with(far, columns[0], far), want, api.OK)
	leaves(t, a, with(cell(0, 0)), want[:api.MaxLeft-1], api.OK)
	leaves(t, a, with(cell(63, 63)), want[1:], api.OK)
	leaves(t, a, with(a), nil, api.OK)
	// One more, of the first one, the last one, one between; and many more.
	leaves(t, a, with(cut(63, 63)), nil, api.ErrMany)
	leaves(t, a, with(cut(0, 0)), nil, api.ErrMany)
	leaves(t, a, with(cut(7, 50)), nil, api.ErrMany)
	leaves(t, a, with(one(2, 2)), nil, api.ErrMany)
	leaves(t, a, with(square(from(2, 2), inside(-1, 127))), nil, api.ErrMany)
	// At a step, whatever would come behind it.
	leaves(t, a, with(cut(0, 0), a), nil, api.ErrMany)
	leaves(t, a, with(cut(0, 0), cell(0, 0)), nil, api.ErrMany)
	leaves(t, a, with(far, cut(63, 63), far, cell(0, 0)), nil, api.ErrMany)
	leaves(t, a, with(all, cut(0, 0)), nil, api.OK)
	// Behind one that has gone there is room for one more, and just for one.
	many(t, a, with(cell(0, 0), cut(63, 63)), api.MaxLeft, api.OK)
	many(t, a, with(cell(63, 63), cut(0, 0)), api.MaxLeft, api.OK)
	many(t, a, with(cell(63, 63), cut(0, 0), cut(1, 0)), 0, api.ErrMany)
	// One goes, and its neighbour becomes two.
	many(t, a, with(over(inside(1, 3), above(-1, 2), below(-4, 0))), api.MaxLeft, api.OK)
}

func TestWhichOfManyAndBadComesFirst(t *testing.T) { // P11.1
	for _, sign := range []int{1, -1} {
		a, lines := sample.Lattice(64, 64, sign)
		with := func(l ...api.Zone) []api.Zone { return append(slices.Clone(lines), l...) }
		many(t, a, lines, api.MaxLeft, api.OK)
		// At an earlier step than the other one.
		point := one(sign*4, -sign*4)
		many(t, a, with(point), 0, api.ErrMany)
		many(t, a, with(point, sample.Line(sign)), 0, api.ErrMany)
		many(t, a, with(sample.Line(sign), point), 0, api.ErrBad)
		many(t, a, append(zones(sample.Line(sign)), with(point)...), 0, api.ErrBad)
		many(t, a, zones(sample.Line(sign)), 0, api.ErrBad)
	}
	// At the same step: in the first column there is one that may not be, and behind it there would be too many.
	a, lines := sample.Lattice(128, 32, -1)
	many(t, a, lines, api.MaxLeft, api.OK)
	many(t, a, append(lines, sample.Line(-1)), 0, api.ErrBad)
	// In the last one: too many come ahead of it.
	a, lines = sample.Lattice(128, 32, 1)
	many(t, a, lines, api.MaxLeft, api.OK)
	many(t, a, append(lines, sample.Line(1)), 0, api.ErrMany)
	// In the last column, of a zone of which one more comes ahead of what may not be: with that one there are MaxLeft, and one more than that.
	a, lines = sample.Lattice(64, 64, 1)
	many(t, a, append(lines, sample.Line(1)), 0, api.ErrBad)
	a, lines = sample.Lattice(65, 63, 1)
	many(t, a, lines, 65*63, api.OK)
	many(t, a, append(lines, sample.Line(1)), 0, api.ErrMany)
}
