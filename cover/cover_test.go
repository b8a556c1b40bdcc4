package cover_test

import (
	"slices"
	"testing"

	"rallentando/api"
	"rallentando/cover"
	"rallentando/sample"
	"rallentando/zone"
)

func TestExamples(t *testing.T) { // P12.1, P12.2, P12.3
	isIn(t, whole, zones(first, second), true, api.OK)
	isIn(t, whole, zones(first), false, api.OK)
	wants(t, zones(whole, first, second), zones(first, second), api.OK)
	wants(t, zones(first, second), zones(first, second), api.OK)
	shows(t, whole, zones(first), api.Point{T: sample.By(5, 2), U: sample.By(4, 1)}, api.OK)
	shows(t, whole, zones(whole), api.Point{}, api.ErrNone)
}

// both fails, unless that is told of whether a zone is covered by some, in whatever order they stand, by both calls that tell it; and a witness just if it is not.
func both(t *testing.T, z api.Zone, l []api.Zone, want bool) {
	t.Helper()
	back := slices.Clone(l)
	slices.Reverse(back)
	for _, by := range [][]api.Zone{l, back, slices.Concat(l, l), append(zones(one(9, 9)), l...)} {
		isIn(t, z, by, want, api.OK)
		areIn(t, zones(z), by, want, api.OK)
		if _, e := cover.Witness(z, by); (e == api.ErrNone) != want || e != api.OK && e != api.ErrNone {
			t.Fatalf("Witness(%v, %v) tells %d", z, by, e)
		}
	}
}

func TestInByNoneAndOne(t *testing.T) { // P12.1
	for _, z := range slices.Concat(every(7, small()), every(7, wide()), stuff) {
		isIn(t, z, nil, false, api.OK)
		isIn(t, z, zones(), false, api.OK)
		isIn(t, z, zones(z), true, api.OK)
		isIn(t, z, zones(z, z), true, api.OK)
		isIn(t, z, zones(all), true, api.OK)
		isIn(t, z, zones(z, all), true, api.OK)
	}
	// By one in which it lies, and by one that lies in it.
	for _, l := range [][2]api.Zone{{whole, broad}, {first, whole}, {second, whole}, {point, whole}, {point, box}, {box, differing(up(0))}, {one(0, 0), broad}, {broad, square(inside(-1, 5), inside(-1, 5))}, {square(inside(0, 4), from(0, 4)), broad}, {upper, all}, {far, upper}} {
		both(t, l[0], l[1:], true)
		both(t, l[1], l[:1], false)
	}
	// By one that shares some of its pairs, and by one that shares none.
	both(t, first, zones(second), false)
	both(t, broad, zones(whole), false)
	both(t, box, zones(square(from(1, 9), from(1, 9))), false)
	both(t, whole, zones(differing(from(-9, 0))), false)
	both(t, point, zones(one(1, 3)), false)
	both(t, broad, zones(square(from(5, 6), from(5, 6))), false)
}

func TestInBySomeTogether(t *testing.T) { // P12.1
	low, high := from(0, 2), from(2, 4)
	corners := zones(square(low, low), square(low, high), square(high, low), square(high, high))
	for _, c := range []struct {
		z api.Zone
		l []api.Zone
	}{
		{whole, zones(first, second)},
		{broad, corners},
		{square(from(1, 3), from(1, 3)), corners},
		{broad, zones(over(from(0, 4), from(0, 4), on(0)), over(from(0, 4), from(0, 4), from(-4, 0)))},
		{broad, zones(differing(up(0)), differing(from(0, 0)), differing(below(-9, 0)))},
		{square(from(1, 1), from(0, 4)), zones(square(from(0, 2), from(0, 1)), square(from(1, 2), from(1, 3)), square(from(0, 1), from(3, 4)))},
		{one(2, 2), zones(one(2, 2))},
		{square(inside(0, 1), from(0, 0)), zones(square(from(0, 1), from(0, 1)))},
		{all, zones(starting(on(0)), put(all, 0, less(0)))},
		{all, zones(ending(up(3)), put(all, 2, most(3)))},
		{all, zones(starting(on(0)), put(put(all, 0, less(0)), 2, most(0)), api.Zone{less(0), none, none, less(0), none, less(0)})},
		{upper, zones(starting(from(0, edge)), put(all, 0, less(0)))},
	} {
		for _, z := range c.l {
			if !sample.MayBe(z) {
				t.Fatal(z)
			}
		}
		both(t, c.z, c.l, true)
		// By all of these but one, and by each alone.
		for i, z := range c.l {
			both(t, c.z, slices.Concat(c.l[:i], c.l[i+1:]), false)
			both(t, c.z, zones(z), len(c.l) == 1)
		}
	}
	// More of them than it takes.
	both(t, broad, append(zones(point, box, one(9, 9)), corners...), true)
}

func TestInByZonesThatTouch(t *testing.T) { // P12.1
	side := from(0, 4)
	for _, c := range []struct {
		low, high api.Span
		want      bool
	}{
		{from(0, 2), from(2, 4), true},    // strict on neither side
		{below(0, 2), from(2, 4), true},   // on one
		{from(0, 2), above(2, 4), true},   // on the other one
		{below(0, 2), above(2, 4), false}, // on both
		{from(0, 3), from(2, 4), true},
		{from(0, 2), from(3, 4), false},
		{below(0, 3), above(2, 4), true},
	} {
		both(t, square(side, side), zones(square(c.low, side), square(c.high, side)), c.want)
		both(t, square(side, side), zones(square(side, c.low), square(side, c.high)), c.want)
		both(t, differing(side), zones(differing(c.low), differing(c.high)), c.want)
		both(t, over(from(-9, 9), from(-9, 9), side), zones(over(from(-9, 9), from(-9, 9), c.low), over(from(-9, 9), from(-9, 9), c.high)), c.want)
		// Of the end alone: it is missing just where both leave it out.
		both(t, square(from(2, 2), side), zones(square(c.low, side), square(c.high, side)), c.want || c.low == from(0, 2))
	}
	shows(t, square(side, side), zones(square(below(0, 2), side), square(above(2, 4), side)), sample.Whole(2, 0), api.OK)
	// Four touch in one pair, which they leave out.
	around := zones(square(below(0, 2), from(0, 4)), square(above(2, 4), from(0, 4)), square(from(2, 2), below(0, 2)), square(from(2, 2), above(2, 4)))
	both(t, broad, around, false)
	shows(t, broad, around, sample.Whole(2, 2), api.OK)
	both(t, broad, append(around, one(2, 2)), true)
	// A side, or an end, is left out by zones that are strict there.
	both(t, broad, zones(square(below(0, 4), from(0, 4))), false)
	both(t, square(below(0, 4), from(0, 4)), zones(broad), true)
	both(t, square(from(0, 0), from(0, 4)), zones(square(above(0, 4), from(0, 4))), false)
}

func TestAll(t *testing.T) { // P12.1
	// None are covered by any, and some not by none.
	for _, l := range [][]api.Zone{nil, zones(), zones(all), zones(whole, far), zones(first, first)} {
		areIn(t, nil, l, true, api.OK)
		areIn(t, zones(), l, true, api.OK)
		areIn(t, l, nil, len(l) == 0, api.OK)
		areIn(t, l, zones(), len(l) == 0, api.OK)
		areIn(t, l, l, true, api.OK)
		areIn(t, l, zones(all), true, api.OK)
	}
	parts := zones(first, second)
	areIn(t, parts, zones(whole), true, api.OK)
	areIn(t, zones(whole), parts, true, api.OK)
	areIn(t, zones(whole, first, point, whole, broad), parts, false, api.OK)
	areIn(t, zones(whole, first, point, whole, second), parts, true, api.OK)
	// The first one, one in the midst, the last one, each alone, any two of them, all.
	areIn(t, zones(far, whole, point), parts, false, api.OK)
	areIn(t, zones(whole, far, point), parts, false, api.OK)
	areIn(t, zones(whole, point, far), parts, false, api.OK)
	areIn(t, zones(whole, broad, first), parts, false, api.OK)
	areIn(t, zones(far, broad, first), parts, false, api.OK)
	areIn(t, zones(far, whole, broad), parts, false, api.OK)
	areIn(t, zones(far, broad, box), parts, false, api.OK)
	areIn(t, zones(far), parts, false, api.OK)
	// All of the second ones together, and just one for each.
	areIn(t, zones(one(0, 1), one(2, 3)), zones(one(2, 3), one(0, 1)), true, api.OK)
	areIn(t, zones(one(0, 1), one(2, 3)), zones(one(2, 3)), false, api.OK)
	areIn(t, zones(one(2, 3)), zones(one(0, 1), one(2, 3)), true, api.OK)
}

func TestAllEndsAtTheFirstOneThatIsNot(t *testing.T) { // P12.1
	by := zones(beyond)
	lies := put(put(all, 4, most(0)), 5, most(0))
	isIn(t, upper, by, false, api.ErrBad)
	isIn(t, lies, by, true, api.OK)
	// An error behind one that is not covered is not asked for; behind those that are it is told.
	areIn(t, zones(all, upper), by, false, api.OK)
	areIn(t, zones(upper, all), by, false, api.ErrBad)
	areIn(t, zones(lies, upper), by, false, api.ErrBad)
	areIn(t, zones(lies, lies, upper, lies), by, false, api.ErrBad)
	areIn(t, zones(lies, all, upper), by, false, api.OK)
	areIn(t, zones(upper, lies), by, false, api.ErrBad)
	areIn(t, zones(upper), by, false, api.ErrBad)
	areIn(t, zones(lies, lies), by, true, api.OK)
	a, columns, rows := sample.Net()
	net := slices.Concat(columns, rows, zones(sample.Cut(3, 4)))
	isIn(t, a, net, false, api.ErrMany)
	areIn(t, zones(columns[0], a), net, false, api.ErrMany)
	areIn(t, zones(columns[0], far, a), net, false, api.OK)
	areIn(t, zones(a, far), net, false, api.ErrMany)
	// The first one of two errors.
	net = append(net, beyond)
	isIn(t, a, net, false, api.ErrMany)
	isIn(t, upper, zones(beyond, a), false, api.ErrBad)
	areIn(t, zones(rows[5], a, upper), net, false, api.ErrMany)
	net = append(zones(beyond), net...)
	areIn(t, zones(lies, upper, a), net, false, api.ErrBad)
}

func TestWitness(t *testing.T) { // P12.3
	for _, z := range slices.Concat(every(7, small()), every(7, wide()), stuff) {
		p, e := zone.Pick(z)
		if e != api.OK {
			t.Fatal(z, e)
		}
		shows(t, z, nil, p, api.OK)
		shows(t, z, zones(), p, api.OK)
		shows(t, z, zones(z), api.Point{}, api.ErrNone)
		shows(t, z, zones(all), api.Point{}, api.ErrNone)
		shows(t, z, zones(all, z, all), api.Point{}, api.ErrNone)
	}
	shows(t, whole, zones(first, second), api.Point{}, api.ErrNone)
	shows(t, whole, zones(second, first), api.Point{}, api.ErrNone)
	// t from 0 on below 1: 0; u above it, up to 4.
	shows(t, whole, zones(second), sample.Whole(0, 4), api.OK)
	shows(t, whole, zones(far), sample.Whole(0, 4), api.OK)
	shows(t, broad, zones(square(from(0, 3), from(0, 4))), sample.Whole(4, 0), api.OK)
	shows(t, broad, zones(square(from(0, 4), from(0, 3))), sample.Whole(0, 4), api.OK)
	shows(t, square(inside(0, 1), inside(0, 1)), zones(differing(up(0)), differing(from(0, 0))), api.Point{T: sample.By(1, 2), U: sample.By(1, 4)}, api.OK)
	shows(t, all, zones(starting(on(0))), sample.Whole(-1, 0), api.OK)
	shows(t, point, zones(one(1, 3)), sample.Whole(1, 2), api.OK)
	shows(t, far, zones(point), sample.Whole(edge, 0), api.OK)
}

func TestWitnessIsOfTheFirstOneThatIsLeft(t *testing.T) { // P12.3
	// A hole has four zones around it: that of t above it is the first one, behind it t below it, u above it, u below it.
	hole := square(from(1, 2), from(1, 2))
	shows(t, broad, zones(hole), sample.Whole(4, 0), api.OK)
	shows(t, broad, zones(hole, square(above(2, 4), from(0, 4))), sample.Whole(0, 0), api.OK)
	shows(t, broad, zones(hole, square(above(2, 4), from(0, 4)), square(below(0, 1), from(0, 4))), sample.Whole(1, 4), api.OK)
	shows(t, broad, zones(hole, square(above(2, 4), from(0, 4)), square(below(0, 1), from(0, 4)), square(from(1, 2), above(2, 4))), sample.Whole(1, 0), api.OK)
	// Which one is left first hangs on the order of those that it is asked by.
	left, under := square(from(0, 2), from(0, 4)), square(from(0, 4), from(0, 2))
	shows(t, broad, zones(left, under), api.Point{T: sample.By(4, 1), U: sample.By(4, 1)}, api.OK)
	corner := square(from(2, 4), from(2, 4))
	shows(t, broad, zones(corner, left), sample.Whole(4, 0), api.OK)
	shows(t, broad, zones(corner), sample.Whole(0, 0), api.OK)
}
