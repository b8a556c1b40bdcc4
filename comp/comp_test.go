package comp_test

import (
	"slices"
	"testing"

	"rallentando/api"
	"rallentando/comp"
	"rallentando/sample"
)

func TestExamples(t *testing.T) { // P9.1, P9.2
	a := api.Zone{3, 1, 5, -3, 5, -1} // t from 0 to 1, u 2, u - t above 0
	if z := over(from(0, 1), from(2, 2), up(0)); z != a {
		t.Fatal(z)
	}
	comes(t, a, square(from(2, 2), from(3, 4)), square(from(0, 1), from(3, 4)), api.OK)
	comes(t, a, api.Zone{5, -3, 9, -5, 5, -1}, api.Zone{3, 1, 9, -5, 9, -3}, api.OK)
	comes(t, a, a, api.Zone{}, api.ErrNone)
	turns(t, a, api.Zone{5, -3, 3, 1, -1, 5}, api.OK)
	turns(t, a, square(from(2, 2), from(0, 1)), api.OK)
	begins(t, a, from(0, 1), api.OK)
	begins(t, put(all, 0, most(3)), api.Span{}, api.ErrNone)
}

func TestComp(t *testing.T) { // P9.1
	for _, c := range []struct{ a, b, want api.Zone }{
		// Single pairs.
		{point, one(2, 7), one(1, 7)},
		{point, one(2, -7), one(1, -7)},
		{one(0, 0), one(0, 0), one(0, 0)},
		{one(-5, -2), one(-2, -9), one(-5, -9)},
		{far, one(0, 0), far},
		// One of many, and many of one.
		{square(from(0, 3), from(2, 5)), one(4, 9), square(from(0, 3), from(9, 9))},
		{one(9, 4), square(above(0, 4), inside(2, 5)), square(from(9, 9), inside(2, 5))},
		// By the time between, and by no difference.
		{square(from(0, 1), from(2, 3)), square(from(2, 3), from(5, 9)), square(from(0, 1), from(5, 9))},
		{square(inside(0, 1), from(2, 5)), square(from(4, 7), below(5, 9)), square(inside(0, 1), below(5, 9))},
		// By differences: just as far as both together.
		{over(on(0), on(0), from(1, 2)), over(on(0), on(0), from(3, 5)), over(on(0), on(4), from(4, 7))},
		{over(on(0), on(0), inside(1, 2)), over(on(0), on(0), from(3, 5)), over(on(0), up(4), inside(4, 7))},
		{over(on(0), on(0), above(1, 2)), over(on(0), on(0), below(3, 5)), over(on(0), up(4), inside(4, 7))},
		{over(from(0, 4), from(0, 4), from(-1, 1)), over(from(0, 4), from(0, 4), from(-1, 1)), over(from(0, 4), from(0, 4), from(-2, 2))},
		{over(inside(0, 4), from(0, 4), up(0)), over(from(0, 4), inside(0, 4), up(0)), over(inside(0, 4), inside(0, 4), up(0))},
		{box, over(from(0, 9), on(0), from(1, 2)), over(below(0, 2), from(2, 5), up(1))},
		// What one says of the time between cuts what the other one says of its own.
		{over(from(0, 9), on(0), from(1, 2)), square(from(5, 6), on(0)), square(from(3, 5), on(0))},
		{over(from(0, 9), on(0), from(1, 2)), square(inside(5, 6), on(0)), square(inside(3, 5), on(0))},
		{square(on(0), from(3, 5)), over(on(0), from(0, 20), from(1, 2)), square(on(0), from(4, 7))},
		{square(on(0), below(3, 5)), over(on(0), from(0, 20), from(1, 2)), square(on(0), below(4, 7))},
	} {
		comes(t, c.a, c.b, c.want, api.OK)
	}
}

func TestCompOfOneBound(t *testing.T) { // P9.1
	comes(t, all, all, all, api.OK)
	for i := range 6 {
		for _, b := range []api.Bound{most(5), less(5), most(-5), less(-5), 0, 1, most(edge), less(edge), most(-edge), less(-edge)} {
			// Of the first one's t all is told, and of the second one's u; of the time between nothing.
			z, first, second := put(all, i, b), all, all
			switch i {
			case 0, 1:
				first = z
			case 2, 3:
				second = z
			}
			comes(t, z, all, first, api.OK)
			comes(t, all, z, second, api.OK)
		}
	}
}

// joins are the bounds of a first zone, each with the one of a second zone behind it that goes on from the time between, and what both are a bound of.
var joins = [][3]int{{2, 4, 2}, {3, 5, 3}, {4, 4, 4}, {5, 5, 5}, {5, 0, 0}, {4, 1, 1}}

func TestCompOfTwoBounds(t *testing.T) { // P9.1
	for _, c := range []struct{ a, b, want api.Bound }{
		{most(1), most(2), most(3)}, {less(1), most(2), less(3)}, {most(1), less(2), less(3)}, {less(1), less(2), less(3)},
		{most(-4), most(1), most(-3)}, {less(4), most(-4), less(0)}, {most(-2), less(-3), less(-5)}, {most(0), most(0), most(0)},
		// As far as the edges.
		{most(edge), most(0), most(edge)}, {less(0), most(edge), less(edge)}, {most(edge - 1), most(1), most(edge)}, {less(1), less(edge - 1), less(edge)},
		{most(-edge), most(0), most(-edge)}, {most(-1), less(1 - edge), less(-edge)}, {most(edge), most(-edge), most(0)}, {less(-edge), most(edge), less(0)},
		{most(edge), most(-1), most(edge - 1)}, {less(1), most(-edge), less(1 - edge)},
	} {
		for _, j := range joins {
			comes(t, put(all, j[0], c.a), put(all, j[1], c.b), put(all, j[2], c.want), api.OK)
		}
	}
	// Those that do not go on from it say nothing together.
	for _, b := range []api.Bound{most(3), less(3), most(-3), less(-3), 0, 1, most(edge), less(-edge)} {
		for _, p := range [][2]int{{2, 0}, {2, 5}, {3, 1}, {3, 4}, {4, 0}, {4, 5}, {5, 1}, {5, 4}} {
			comes(t, put(all, p[0], b), put(all, p[1], b), all, api.OK)
		}
	}
}

func TestCompBeyondMaxConst(t *testing.T) { // P9.1
	for _, c := range [][2]api.Bound{
		{most(edge), most(1)}, {less(1), most(edge)}, {less(edge), less(1)}, {most(edge), most(edge)}, {less(edge), less(edge)},
		{most(-edge), most(-1)}, {less(-1), most(-edge)}, {less(-edge), less(-1)}, {most(-edge), most(-edge)}, {less(-edge), less(-edge)},
	} {
		for _, j := range joins {
			comes(t, put(all, j[0], c[0]), put(all, j[1], c[1]), api.Zone{}, api.ErrBad)
		}
	}
	// What follows of t and u over 0, just within and beyond.
	comes(t, put(all, 1, most(edge)), put(all, 2, most(0)), api.Zone{none, most(edge), most(0), none, most(edge), none}, api.OK)
	comes(t, put(all, 1, most(edge)), put(all, 2, less(1)), api.Zone{}, api.ErrBad)
	comes(t, put(all, 0, most(edge)), put(all, 3, less(0)), api.Zone{most(edge), none, none, less(0), none, less(edge)}, api.OK)
	comes(t, put(all, 0, most(edge)), put(all, 3, most(1)), api.Zone{}, api.ErrBad)
	comes(t, put(all, 1, most(1-edge)), put(all, 2, less(-1)), api.Zone{none, most(1 - edge), less(-1), none, less(-edge), none}, api.OK)
	comes(t, put(all, 1, most(-edge)), put(all, 2, less(-1)), api.Zone{}, api.ErrBad)
	comes(t, far, one(0, -edge), api.Zone{}, api.ErrBad)
	comes(t, one(edge, 0), one(0, 0), far, api.OK)
	// What follows of the time between alone is beyond: nobody asks for it.
	comes(t, put(all, 1, most(edge)), put(all, 0, most(edge)), put(all, 1, most(edge)), api.OK)
	comes(t, put(all, 0, less(edge)), put(all, 1, less(edge)), put(all, 0, less(edge)), api.OK)
	comes(t, put(all, 2, most(edge)), put(all, 3, most(edge)), put(all, 3, most(edge)), api.OK)
	comes(t, put(all, 3, most(-edge)), put(all, 2, most(-1)), put(all, 2, most(-1)), api.OK)
}

func TestCompOfNoPair(t *testing.T) { // P9.1
	whole := from(0, 9)
	for _, c := range []struct{ a, b api.Span }{
		// They touch in a bound that is in just one, or in neither.
		{from(2, 3), above(3, 4)}, {below(2, 3), from(3, 4)}, {below(2, 3), above(3, 4)},
		{from(3, 4), below(2, 3)}, {above(3, 4), from(2, 3)}, {above(3, 4), below(2, 3)}, {from(3, 3), inside(3, 4)},
		{below(0, 3), on(3)}, {up(3), from(0, 3)},
		// Apart.
		{from(2, 3), from(4, 5)}, {from(2, 3), on(4)}, {on(5), from(0, 4)}, {inside(0, 1), inside(1, 2)}, {from(-9, -8), from(8, 9)},
	} {
		comes(t, square(on(0), c.a), square(c.b, on(0)), api.Zone{}, api.ErrNone)
		comes(t, square(from(-1, 1), c.a), square(c.b, inside(-1, 1)), api.Zone{}, api.ErrNone)
	}
	// By what is told of t and u, and of how far they are apart.
	comes(t, over(from(0, 1), on(-9), from(1, 2)), square(from(3, 4), whole), square(from(1, 1), whole), api.OK)
	comes(t, over(from(0, 1), on(-9), below(1, 2)), square(from(3, 4), whole), api.Zone{}, api.ErrNone)
	comes(t, over(from(0, 1), on(-9), from(1, 2)), square(above(3, 4), whole), api.Zone{}, api.ErrNone)
	comes(t, square(whole, from(0, 2)), over(on(-9), from(5, 6), from(1, 3)), square(whole, from(5, 5)), api.OK)
	comes(t, square(whole, from(0, 2)), over(on(-9), above(5, 6), from(1, 3)), api.Zone{}, api.ErrNone)
	comes(t, put(all, 2, most(3)), put(all, 1, most(-4)), api.Zone{}, api.ErrNone)
	comes(t, put(all, 3, less(-3)), put(all, 0, most(3)), api.Zone{}, api.ErrNone)
	comes(t, put(all, 2, less(edge)), put(all, 1, most(-edge)), api.Zone{}, api.ErrNone)
	comes(t, put(all, 3, most(-edge)), put(all, 0, most(-edge)), api.Zone{}, api.ErrNone)
	comes(t, point, point, api.Zone{}, api.ErrNone)
	comes(t, far, far, api.Zone{}, api.ErrNone)
	// They touch in a bound that is in both.
	comes(t, square(whole, from(2, 3)), square(from(3, 4), whole), square(whole, whole), api.OK)
	comes(t, square(whole, on(3)), square(from(0, 3), whole), square(whole, whole), api.OK)
	comes(t, put(all, 2, most(3)), put(all, 1, most(-3)), all, api.OK)
	comes(t, put(all, 3, most(-3)), put(all, 0, most(3)), all, api.OK)
}

func TestCompErrors(t *testing.T) { // P9.1, P1
	good := []api.Zone{all, box, point, far, one(2, 7), square(on(0), inside(3, 5)), put(all, 4, most(edge))}
	for _, z := range wrong() {
		for _, other := range slices.Concat(good, wrong()[:8], []api.Zone{z}) {
			comes(t, z, other, api.Zone{}, api.ErrBad)
			comes(t, other, z, api.Zone{}, api.ErrBad)
		}
	}
	// No pair, beside numbers too far apart: that there is none is told first.
	low, lower := api.Zone{none, most(edge), most(0), none, most(edge), none}, api.Zone{none, most(edge), less(0), none, less(edge), none}
	high, higher := api.Zone{none, most(0), most(edge), none, most(edge), none}, api.Zone{none, most(-1), most(edge), none, most(edge - 1), none}
	comes(t, low, high, api.Zone{}, api.ErrBad)
	comes(t, low, higher, api.Zone{}, api.ErrNone)
	comes(t, lower, high, api.Zone{}, api.ErrNone)
	comes(t, lower, higher, api.Zone{}, api.ErrNone)
	for _, z := range []api.Zone{low, lower, high, higher} {
		if !sample.MayBe(z) {
			t.Error(z)
		}
	}
}

func TestCompByTheWords(t *testing.T) { // P9.1
	count := map[api.Errno]int{}
	for _, l := range [][]api.Zone{append(every(41, small()), all, box, point), append(every(9, wide()), far)} {
		for _, a := range l {
			for _, b := range l {
				want, e := composed(a, b)
				comes(t, a, b, want, e)
				count[e]++
			}
		}
	}
	if count[api.OK] < 1000 || count[api.ErrNone] < 1000 || count[api.ErrBad] < 1000 {
		t.Error(count, "are too few to tell")
	}
}

func TestBack(t *testing.T) { // P9.1
	turns(t, all, all, api.OK)
	turns(t, point, one(2, 1), api.OK)
	turns(t, far, one(0, edge), api.OK)
	turns(t, box, api.Zone{7, -1, 4, 1, 0, 7}, api.OK)
	turns(t, over(from(0, 1), inside(2, 5), up(3)), over(inside(2, 5), from(0, 1), api.Span{Low: -5, LowStrict: true, High: -3, HighStrict: true}), api.OK)
	// Each bound alone.
	for i, k := range [6]int{2, 3, 0, 1, 5, 4} {
		for _, b := range []api.Bound{most(5), less(5), most(-5), less(-5), 0, 1, most(edge), less(edge), most(-edge), less(-edge), none} {
			turns(t, put(all, i, b), put(all, k, b), api.OK)
		}
	}
	for _, z := range append(small(), wide()...) {
		turns(t, z, back(z), api.OK)
	}
	for _, z := range wrong() {
		turns(t, z, api.Zone{}, api.ErrBad)
	}
}

func TestFirsts(t *testing.T) { // P9.2
	for _, s := range []api.Span{from(0, 0), from(0, 4), above(0, 4), below(0, 4), inside(0, 4), from(-4, -1), above(-4, -1), below(-4, -1), inside(-4, -1), from(-3, 3), inside(-3, 3), inside(0, 1),
		on(0), up(0), on(5), up(5), on(-5), up(-5),
		on(edge), up(edge), on(-edge), up(-edge), from(edge, edge), from(-edge, -edge), from(-edge, edge), inside(-edge, edge), above(edge-1, edge), below(-edge, 1-edge)} {
		z := all
		z[0], z[1] = bounds(s)
		begins(t, z, s, api.OK)
		// What is told beside it of u turns nothing.
		z[4], z[5] = most(0), most(0)
		z[2], z[3] = z[0], z[1]
		begins(t, z, s, api.OK)
	}
	begins(t, box, below(0, 2), api.OK)
	begins(t, point, from(1, 1), api.OK)
	begins(t, far, from(edge, edge), api.OK)
	// What follows of u, and of how far both are apart.
	begins(t, over(on(-9), from(4, 5), from(1, 3)), from(1, 4), api.OK)
	begins(t, over(on(-9), inside(4, 5), from(1, 3)), inside(1, 4), api.OK)
	begins(t, over(on(-9), from(4, 5), inside(1, 3)), inside(1, 4), api.OK)
	begins(t, over(on(-9), on(4), from(1, 3)), on(1), api.OK)
	// No least t: nothing is told, a greatest one or not.
	for _, b := range []api.Bound{none, most(3), less(3), most(-3), less(-3), 0, 1, most(edge), less(-edge)} {
		for i := range 6 {
			if i != 1 {
				begins(t, put(all, i, b), api.Span{}, api.ErrNone)
			}
		}
	}
	begins(t, api.Zone{most(3), none, most(7), most(0), none, most(3)}, api.Span{}, api.ErrNone)
	for _, z := range wrong() {
		begins(t, z, api.Span{}, api.ErrBad)
	}
}

func TestFirstsByTheWords(t *testing.T) { // P9.2
	count := map[api.Errno]int{}
	for _, z := range append(small(), wide()...) {
		s, e := comp.Firsts(z)
		count[e]++
		if z[1] == none {
			begins(t, z, api.Span{}, api.ErrNone)
			continue
		}
		// A span's bounds tell it whole: its ends, and what is open has no others.
		high, low := bounds(s)
		if e != api.OK || high != z[0] || low != z[1] || s.Open && (s.High != 0 || s.HighStrict) {
			t.Fatalf("Firsts(%v) = %v, %d", z, s, e)
		}
	}
	if count[api.OK] < 1000 || count[api.ErrNone] < 1000 {
		t.Error(count, "are too few to tell")
	}
}
