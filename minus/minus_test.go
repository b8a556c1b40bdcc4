package minus_test

import (
	"slices"
	"testing"

	"rallentando/api"
	"rallentando/sample"
)

func TestExamples(t *testing.T) { // P11.1
	takes(t, whole, part, zones(over(above(2, 4), from(0, 4), up(0)), over(below(0, 1), from(0, 4), up(0))), api.OK)
	takes(t, whole, whole, nil, api.OK)
	leaves(t, whole, nil, zones(whole), api.OK)
	// Bound by bound.
	takes(t, whole, part, zones(api.Zone{less(4), less(-2), most(4), less(-2), less(2), less(0)}, api.Zone{less(1), most(0), most(4), less(0), most(4), less(0)}), api.OK)
}

func TestMinusOneThatLiesInIt(t *testing.T) { // P11.1
	t1, t2, u1, u2 := square(above(2, 4), from(0, 4)), square(below(0, 1), from(0, 4)), square(from(1, 2), above(3, 4)), square(from(1, 2), below(0, 1))
	takes(t, broad, square(from(1, 2), from(1, 3)), zones(t1, t2, u1, u2), api.OK)
	// What a bound leaves out is what comes: strict ends turn round.
	takes(t, broad, square(inside(1, 2), inside(1, 3)), zones(square(from(2, 4), from(0, 4)), square(from(0, 1), from(0, 4)), square(inside(1, 2), from(3, 4)), square(inside(1, 2), from(0, 1))), api.OK)
	takes(t, broad, square(above(1, 2), below(1, 3)), zones(t1, square(from(0, 1), from(0, 4)), square(above(1, 2), from(3, 4)), square(above(1, 2), below(0, 1))), api.OK)
	// On one side, on two, on three it goes as far as the first one.
	takes(t, broad, square(from(0, 2), from(1, 3)), zones(t1, square(from(0, 2), above(3, 4)), square(from(0, 2), below(0, 1))), api.OK)
	takes(t, broad, square(from(1, 2), from(1, 4)), zones(t1, t2, u2), api.OK)
	takes(t, broad, square(from(1, 2), from(0, 4)), zones(t1, t2), api.OK)
	takes(t, broad, square(from(1, 4), from(0, 4)), zones(t2), api.OK)
	takes(t, broad, square(from(0, 4), from(0, 3)), zones(square(from(0, 4), above(3, 4))), api.OK)
	takes(t, broad, square(from(0, 4), from(1, 4)), zones(square(from(0, 4), below(0, 1))), api.OK)
	// All but its sides, each of them, and just a corner.
	takes(t, broad, square(inside(0, 4), inside(0, 4)), zones(square(from(4, 4), from(0, 4)), square(from(0, 0), from(0, 4)), square(inside(0, 4), from(4, 4)), square(inside(0, 4), from(0, 0))), api.OK)
	takes(t, broad, square(below(0, 4), from(0, 4)), zones(square(from(4, 4), from(0, 4))), api.OK)
	takes(t, broad, one(0, 0), zones(square(above(0, 4), from(0, 4)), square(from(0, 0), above(0, 4))), api.OK)
	takes(t, broad, one(4, 4), zones(square(below(0, 4), from(0, 4)), square(from(4, 4), below(0, 4))), api.OK)
	takes(t, broad, one(2, 3), zones(square(above(2, 4), from(0, 4)), square(below(0, 2), from(0, 4)), square(from(2, 2), above(3, 4)), square(from(2, 2), below(0, 3))), api.OK)
}

func TestMinusByHowFarApart(t *testing.T) { // P11.1
	// With the four bounds of both times, that follow, in front of these two.
	middle := over(from(0, 3), from(1, 4), from(1, 2))
	takes(t, broad, middle, zones(square(above(3, 4), from(0, 4)), square(from(0, 3), below(0, 1)), over(from(0, 3), from(1, 4), up(2)), over(from(0, 3), from(1, 4), below(-9, 1))), api.OK)
	// Without them these two alone.
	takes(t, broad, differing(from(1, 2)), zones(over(from(0, 4), from(0, 4), up(2)), over(from(0, 4), from(0, 4), below(-9, 1))), api.OK)
	takes(t, broad, differing(inside(1, 2)), zones(over(from(0, 4), from(0, 4), on(2)), over(from(0, 4), from(0, 4), from(-9, 1))), api.OK)
	takes(t, broad, differing(from(0, 0)), zones(over(from(0, 4), from(0, 4), up(0)), over(from(0, 4), from(0, 4), below(-9, 0))), api.OK)
	takes(t, broad, differing(on(4)), zones(over(from(0, 4), from(0, 4), below(-9, 4))), api.OK)
	takes(t, broad, differing(up(-4)), zones(one(4, 0)), api.OK)
	// Of u - t above 0 it follows that t is below 4, and u above 0.
	takes(t, broad, whole, zones(square(from(4, 4), from(0, 4)), square(below(0, 4), from(0, 0)), over(below(0, 4), above(0, 4), from(-9, 0))), api.OK)
}

func TestMinusOneThatTouches(t *testing.T) { // P11.1
	left, right := from(0, 2), from(2, 4)
	// At one end, t 2, strict on neither side, on one, on the other one, on both.
	takes(t, square(left, left), square(right, left), zones(square(below(0, 2), left)), api.OK)
	takes(t, square(left, left), square(above(2, 4), left), zones(square(left, left)), api.OK)
	takes(t, square(below(0, 2), left), square(right, left), zones(square(below(0, 2), left)), api.OK)
	takes(t, square(below(0, 2), left), square(above(2, 4), left), zones(square(below(0, 2), left)), api.OK)
	takes(t, square(right, left), square(left, left), zones(square(above(2, 4), left)), api.OK)
	takes(t, square(right, left), square(below(0, 2), left), zones(square(right, left)), api.OK)
	takes(t, square(above(2, 4), left), square(left, left), zones(square(above(2, 4), left)), api.OK)
	takes(t, square(above(2, 4), left), square(below(0, 2), left), zones(square(above(2, 4), left)), api.OK)
	// At u 2.
	takes(t, square(left, left), square(left, right), zones(square(left, below(0, 2))), api.OK)
	takes(t, square(left, left), square(left, above(2, 4)), zones(square(left, left)), api.OK)
	takes(t, square(left, right), square(left, left), zones(square(left, above(2, 4))), api.OK)
	takes(t, square(left, right), square(left, below(0, 2)), zones(square(left, right)), api.OK)
	takes(t, square(left, above(2, 4)), square(left, below(0, 2)), zones(square(left, above(2, 4))), api.OK)
	// At u - t 2.
	takes(t, differing(left), differing(right), zones(differing(below(0, 2))), api.OK)
	takes(t, differing(left), differing(above(2, 4)), zones(differing(left)), api.OK)
	takes(t, differing(right), differing(left), zones(differing(above(2, 4))), api.OK)
	takes(t, differing(right), differing(below(0, 2)), zones(differing(right)), api.OK)
	takes(t, differing(above(2, 4)), differing(below(0, 2)), zones(differing(above(2, 4))), api.OK)
	// They share just a pair: the corner.
	takes(t, square(left, left), square(right, right), zones(square(below(0, 2), left), square(from(2, 2), below(0, 2))), api.OK)
	takes(t, square(right, right), square(left, left), zones(square(above(2, 4), right), square(from(2, 2), above(2, 4))), api.OK)
	takes(t, square(left, left), square(right, above(2, 4)), zones(square(below(0, 2), left), square(from(2, 2), left)), api.OK)
	takes(t, square(left, left), square(above(2, 4), right), zones(square(left, left)), api.OK)
	takes(t, point, square(from(1, 9), from(2, 9)), nil, api.OK)
	takes(t, point, square(from(1, 9), above(2, 9)), zones(point), api.OK)
	takes(t, point, point, nil, api.OK)
	takes(t, far, far, nil, api.OK)
}

func TestMinusOneThatSharesNoPair(t *testing.T) { // P11.1
	takes(t, broad, square(from(5, 6), from(0, 4)), zones(broad), api.OK)
	takes(t, broad, square(from(-6, -5), from(0, 4)), zones(broad), api.OK)
	takes(t, broad, square(from(0, 4), from(5, 6)), zones(broad), api.OK)
	takes(t, broad, differing(from(5, 6)), zones(broad), api.OK)
	takes(t, broad, differing(from(-6, -5)), zones(broad), api.OK)
	takes(t, whole, differing(from(-6, 0)), zones(whole), api.OK)
	takes(t, whole, differing(below(-6, 0)), zones(whole), api.OK)
	takes(t, point, far, zones(point), api.OK)
	takes(t, far, point, zones(far), api.OK)
	// Bounds that stand ahead of the one that tells so cut it all the same.
	takes(t, broad, square(from(1, 2), from(5, 6)), zones(square(above(2, 4), from(0, 4)), square(below(0, 1), from(0, 4)), square(from(1, 2), from(0, 4))), api.OK)
	takes(t, broad, square(below(1, 2), from(-6, -5)), zones(square(from(2, 4), from(0, 4)), square(below(0, 1), from(0, 4)), square(below(1, 2), from(0, 4))), api.OK)
	takes(t, broad, put(put(put(all, 1, most(-1)), 5, most(-9)), 3, most(-10)), zones(square(below(0, 1), from(0, 4)), square(from(1, 4), from(0, 4))), api.OK)
	takes(t, point, one(1, 3), zones(point), api.OK)
	takes(t, point, one(0, 2), zones(point), api.OK)
}

func TestMinusOneWithNone(t *testing.T) { // P11.1
	// No bound is one that is not kept.
	for _, z := range slices.Concat(every(7, small()), every(7, wide()), stuff) {
		takes(t, z, all, nil, api.OK)
	}
	// One alone, the others None: what is left of all is what does not keep it.
	for i := range 6 {
		for _, b := range []api.Bound{most(0), less(0), most(3), less(3), most(-3), less(-3), most(edge), less(edge), most(-edge), less(-edge)} {
			takes(t, all, put(all, i, b), zones(put(all, i^1, not(b))), api.OK)
			takes(t, put(all, i, b), all, nil, api.OK)
			takes(t, put(all, i, b), put(all, i, b), nil, api.OK)
			takes(t, put(all, i, b), put(all, i^1, not(b)), zones(put(all, i, b)), api.OK)
		}
	}
	// As it is written: what is left by at most 3 is above 3, by less than 3 from 3 on.
	takes(t, all, put(all, 0, most(3)), zones(starting(up(3))), api.OK)
	takes(t, all, put(all, 2, less(3)), zones(ending(on(3))), api.OK)
	takes(t, all, put(all, 4, most(3)), zones(differing(up(3))), api.OK)
	takes(t, all, starting(up(3)), zones(put(all, 0, most(3))), api.OK)
	takes(t, all, ending(on(3)), zones(put(all, 2, less(3))), api.OK)
	takes(t, all, differing(on(3)), zones(put(all, 4, less(3))), api.OK)
	// Of some that have no bound there.
	takes(t, starting(on(0)), starting(from(1, 2)), zones(starting(up(2)), starting(below(0, 1))), api.OK)
	takes(t, ending(from(0, 9)), ending(on(3)), zones(ending(below(0, 3))), api.OK)
	takes(t, ending(on(3)), ending(from(0, 9)), zones(ending(up(9))), api.OK)
	takes(t, differing(on(0)), starting(on(0)), zones(put(differing(on(0)), 0, less(0))), api.OK)
	takes(t, starting(on(0)), differing(on(0)), zones(api.Zone{none, most(0), none, none, less(0), none}), api.OK)
}

func TestMinusInTheOrderOfBounds(t *testing.T) { // P11.1
	// Each of the six leaves something of its own, and what follows of those ahead stands in it.
	six := api.Zone{most(3), most(3), most(3), most(3), most(4), most(5)}
	around := from(-3, 3)
	takes(t, all, six, zones(starting(up(3)), put(all, 0, less(-3)), api.Zone{most(3), most(3), none, less(-3), none, less(0)}, api.Zone{most(3), most(3), less(-3), none, less(0), none},
		over(around, around, above(4, 6)), over(around, around, below(-6, -5))), api.OK)
	// Turned round by strict ones.
	takes(t, broad, api.Zone{less(3), less(-1), less(3), less(-1), less(1), less(1)}, zones(square(from(3, 4), from(0, 4)), square(from(0, 1), from(0, 4)), square(inside(1, 3), from(3, 4)), square(inside(1, 3), from(0, 1)),
		over(inside(1, 3), inside(1, 3), from(1, 9)), over(inside(1, 3), inside(1, 3), from(-9, -1))), api.OK)
}

func TestMinusErrors(t *testing.T) { // P11.1, P1
	good := slices.Concat(stuff, zones(part, broad, upper, lower))
	for _, z := range good {
		if !sample.MayBe(z) {
			t.Fatal(z)
		}
	}
	for _, bad := range wrong() {
		for _, z := range good {
			takes(t, bad, z, nil, api.ErrBad)
			takes(t, z, bad, nil, api.ErrBad)
		}
		for _, other := range every(11, wrong()) {
			takes(t, bad, other, nil, api.ErrBad)
		}
		takes(t, bad, bad, nil, api.ErrBad)
	}
}
