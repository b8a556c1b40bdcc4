package win_test

import (
	"slices"
	"testing"

	"rallentando/api"
	"rallentando/sample"
)

func TestExamples(t *testing.T) { // P10.1, P10.2
	cuts(t, whole, from(1, 2), over(from(0, 3), from(1, 4), from(1, 2)), api.OK)
	opens(t, whole, 2, 3, over(from(0, 4), above(2, 3), up(0)), api.OK)
	opens(t, whole, 4, 5, api.Zone{}, api.ErrNone)
	opens(t, whole, 3, 3, api.Zone{}, api.ErrArg)
	goes(t, whole, 2, over(from(2, 6), from(2, 6), up(0)), api.OK)
	// Bound by bound.
	cuts(t, whole, from(1, 2), api.Zone{most(3), most(0), most(4), most(-1), most(2), most(-1)}, api.OK)
	opens(t, whole, 2, 3, api.Zone{less(3), most(0), most(3), less(-2), most(3), less(0)}, api.OK)
	goes(t, whole, 2, api.Zone{less(6), most(-2), most(6), less(-2), most(4), less(0)}, api.OK)
}

func TestWithin(t *testing.T) { // P10.1
	nothing := below(0, 0)
	for _, c := range []struct{ d, s, want api.Span }{
		// Nothing is cut.
		{from(1, 3), from(1, 3), from(1, 3)}, {from(1, 3), from(0, 4), from(1, 3)}, {from(1, 3), inside(0, 4), from(1, 3)}, {inside(1, 3), from(1, 3), inside(1, 3)}, {inside(1, 3), inside(1, 3), inside(1, 3)},
		{from(1, 3), on(1), from(1, 3)}, {from(1, 3), up(0), from(1, 3)}, {above(1, 3), up(1), above(1, 3)}, {on(1), on(1), on(1)}, {up(1), on(1), up(1)}, {on(2), up(1), on(2)},
		{from(2, 2), from(2, 2), from(2, 2)}, {from(2, 2), inside(1, 3), from(2, 2)}, {from(-3, -1), from(-9, 9), from(-3, -1)}, {from(0, 0), from(0, 0), from(0, 0)},
		{from(1, 3), from(-edge, edge), from(1, 3)}, {inside(1, 3), on(-edge), inside(1, 3)}, {on(1), up(-edge), on(1)},
		// Something is: at the low end, at the high end, at both, just an end itself.
		{from(1, 5), from(2, 9), from(2, 5)}, {from(1, 5), above(2, 9), above(2, 5)}, {from(1, 5), from(0, 3), from(1, 3)}, {from(1, 5), below(0, 3), below(1, 3)},
		{from(1, 5), from(2, 3), from(2, 3)}, {from(1, 5), inside(2, 3), inside(2, 3)}, {from(1, 5), above(2, 3), above(2, 3)}, {from(1, 5), below(2, 3), below(2, 3)}, {from(1, 5), from(3, 3), from(3, 3)},
		{from(1, 5), inside(1, 5), inside(1, 5)}, {from(1, 5), above(1, 5), above(1, 5)}, {from(1, 5), below(1, 5), below(1, 5)}, {above(1, 5), below(1, 5), inside(1, 5)}, {below(1, 5), above(0, 9), below(1, 5)},
		{from(1, 5), on(2), from(2, 5)}, {from(1, 5), up(2), above(2, 5)}, {from(1, 5), up(1), above(1, 5)}, {below(1, 5), on(4), below(4, 5)}, {inside(1, 5), up(4), inside(4, 5)},
		{on(1), from(0, 4), from(1, 4)}, {on(1), below(0, 4), below(1, 4)}, {up(1), from(0, 4), above(1, 4)}, {on(1), on(3), on(3)}, {on(1), up(1), up(1)}, {on(-2), from(-1, 1), from(-1, 1)}, {from(-5, -1), inside(-3, -2), inside(-3, -2)},
		// They touch in a number that is in both.
		{from(3, 5), from(1, 3), from(3, 3)}, {from(3, 5), above(1, 3), from(3, 3)}, {below(3, 5), from(3, 3), from(3, 3)}, {from(-2, 1), from(1, 3), from(1, 1)}, {above(-2, 1), below(1, 3), from(1, 1)}, {from(-2, 1), on(1), from(1, 1)}, {on(3), from(1, 3), from(3, 3)},
		// In one that is in just one of both.
		{above(3, 5), from(1, 3), nothing}, {from(3, 5), below(1, 3), nothing}, {below(-2, 1), from(1, 3), nothing}, {from(-2, 1), above(1, 3), nothing}, {from(-2, 1), up(1), nothing}, {below(-2, 1), on(1), nothing}, {up(3), from(1, 3), nothing}, {on(3), below(1, 3), nothing}, {above(3, 5), from(3, 3), nothing},
		// In one that is in neither.
		{above(3, 5), below(1, 3), nothing}, {inside(3, 5), inside(1, 3), nothing}, {below(-2, 1), above(1, 3), nothing}, {below(-2, 1), up(1), nothing}, {up(3), below(1, 3), nothing},
		// All is cut.
		{from(3, 5), from(6, 7), nothing}, {from(3, 5), from(1, 2), nothing}, {from(3, 5), on(6), nothing}, {on(3), from(1, 2), nothing}, {on(0), from(-5, -1), nothing}, {inside(0, 1), inside(1, 2), nothing}, {from(0, 0), from(edge, edge), nothing}, {from(0, 0), from(-edge, -edge), nothing},
	} {
		low := from(-20, 20)
		if c.want == nothing {
			cuts(t, differing(c.d), c.s, api.Zone{}, api.ErrNone)
			cuts(t, over(from(0, 9), low, c.d), c.s, api.Zone{}, api.ErrNone)
			cuts(t, over(low, inside(0, 9), c.d), c.s, api.Zone{}, api.ErrNone)
			continue
		}
		cuts(t, differing(c.d), c.s, differing(c.want), api.OK)
		cuts(t, over(from(0, 9), low, c.d), c.s, over(from(0, 9), low, c.want), api.OK)
		cuts(t, over(low, inside(0, 9), c.d), c.s, over(low, inside(0, 9), c.want), api.OK)
	}
	// In a span that has nothing in it there is no pair.
	for _, s := range nothings() {
		for _, z := range []api.Zone{all, box, point, far, whole, differing(from(1, 1)), put(all, 0, most(edge))} {
			cuts(t, z, s, api.Zone{}, api.ErrNone)
		}
	}
}

func TestWithinTellsWhatFollows(t *testing.T) { // P10.1
	for _, c := range []struct {
		s    api.Span
		want api.Zone
		e    api.Errno
	}{
		{from(0, 4), whole, api.OK},
		{up(0), whole, api.OK},
		{inside(0, 4), api.Zone{less(4), most(0), most(4), less(0), less(4), less(0)}, api.OK},
		{above(1, 2), api.Zone{less(3), most(0), most(4), less(-1), most(2), less(-1)}, api.OK},
		{on(3), api.Zone{most(1), most(0), most(4), most(-3), most(4), most(-3)}, api.OK},
		{up(3), api.Zone{less(1), most(0), most(4), less(-3), most(4), less(-3)}, api.OK},
		{below(0, 1), api.Zone{less(4), most(0), most(4), less(0), less(1), less(0)}, api.OK},
		// One pair, at the corner; and none.
		{from(4, 4), one(0, 4), api.OK},
		{from(4, 9), one(0, 4), api.OK},
		{on(4), one(0, 4), api.OK},
		{up(4), api.Zone{}, api.ErrNone},
		{above(4, 9), api.Zone{}, api.ErrNone},
		{from(5, 9), api.Zone{}, api.ErrNone},
		{from(-9, 0), api.Zone{}, api.ErrNone},
		{from(0, 0), api.Zone{}, api.ErrNone},
	} {
		cuts(t, whole, c.s, c.want, c.e)
	}
	cuts(t, square(from(0, 4), from(0, 4)), from(-1, 1), api.Zone{most(4), most(0), most(4), most(0), most(1), most(1)}, api.OK)
	cuts(t, square(from(0, 4), from(0, 4)), from(-4, -4), one(4, 0), api.OK)
	cuts(t, square(from(0, 4), below(0, 4)), from(4, 4), api.Zone{}, api.ErrNone)
	cuts(t, put(all, 0, most(2)), from(1, 3), api.Zone{most(2), none, most(5), none, most(3), most(-1)}, api.OK)
	cuts(t, put(all, 1, less(2)), from(1, 3), api.Zone{none, less(2), none, less(1), most(3), most(-1)}, api.OK)
	cuts(t, put(all, 2, most(2)), inside(1, 3), api.Zone{less(1), none, most(2), none, less(3), less(-1)}, api.OK)
	cuts(t, put(all, 3, less(2)), on(1), api.Zone{none, none, none, less(2), none, most(-1)}, api.OK)
	cuts(t, point, from(1, 1), point, api.OK)
	cuts(t, point, from(0, 2), point, api.OK)
	cuts(t, point, above(1, 2), api.Zone{}, api.ErrNone)
	cuts(t, box, from(2, 2), api.Zone{most(1), most(0), most(3), most(-2), most(2), most(-2)}, api.OK)
}

func TestWithinAtTheEdges(t *testing.T) { // P10.1
	for _, s := range []api.Span{from(-edge, edge), inside(-edge, edge), above(-edge, edge), below(-edge, edge), from(edge, edge), from(-edge, -edge), on(edge), up(edge), on(-edge), up(-edge), inside(edge-1, edge), above(-edge, 1-edge)} {
		cuts(t, all, s, differing(s), api.OK)
		cuts(t, differing(s), s, differing(s), api.OK)
	}
	cuts(t, far, from(-edge, -edge), far, api.OK)
	cuts(t, far, on(-edge), far, api.OK)
	cuts(t, far, from(-edge, edge), far, api.OK)
	cuts(t, far, up(-edge), api.Zone{}, api.ErrNone)
	cuts(t, far, above(-edge, 0), api.Zone{}, api.ErrNone)
	cuts(t, far, from(1-edge, 0), api.Zone{}, api.ErrNone)
	cuts(t, one(0, edge), on(edge), one(0, edge), api.OK)
	cuts(t, one(0, edge), up(edge), api.Zone{}, api.ErrNone)
	cuts(t, one(0, edge), below(0, edge), api.Zone{}, api.ErrNone)
	cuts(t, put(all, 4, less(edge)), from(edge, edge), api.Zone{}, api.ErrNone)
	cuts(t, put(all, 5, less(edge)), from(-edge, -edge), api.Zone{}, api.ErrNone)
}

// number is that of a bound, and whether it is strict.
func number(b api.Bound) (int, bool) { return int(b >> 1), b%2 == 0 }

func TestWithinBeyondMaxConst(t *testing.T) { // P10.1
	for _, c := range sample.Additions() {
		n, strict := number(c.B)
		// The other end of each is none that says anything.
		low := api.Span{Low: -n, LowStrict: strict, Open: true}
		high := api.Span{Low: -edge, High: n, HighStrict: strict}
		for _, p := range []struct {
			s      api.Span
			at, to int // the bound that the zone has, and the one that it and the span's come to
		}{{low, 2, 0}, {low, 1, 3}, {high, 0, 2}, {high, 3, 1}} {
			if p.s.HighStrict && p.s.High == -edge {
				continue // nothing is in it
			}
			z := put(all, p.at, c.A)
			want := put(z, p.to, c.Sum)
			want[4], want[5] = bounds(p.s)
			cuts(t, z, p.s, want, c.E)
		}
	}
	// There is no pair, and numbers are beyond: that there is none is told first.
	cuts(t, put(all, 0, most(edge)), above(1, 1), api.Zone{}, api.ErrNone)
	cuts(t, put(put(all, 0, most(edge)), 5, most(-5)), from(1, 2), api.Zone{}, api.ErrNone)
	cuts(t, put(put(all, 0, most(edge)), 5, most(-5)), from(1, 5), api.Zone{}, api.ErrBad)
	cuts(t, put(put(all, 1, most(-edge)), 4, less(3)), on(3), api.Zone{}, api.ErrNone)
	cuts(t, put(put(all, 1, most(-edge)), 4, less(3)), on(2), api.Zone{}, api.ErrBad)
	// The same number stands there, and what follows of it is within.
	cuts(t, put(all, 0, most(edge)), from(-5, 0), api.Zone{most(edge), none, most(edge), none, most(0), most(5)}, api.OK)
}

func TestWithinErrors(t *testing.T) { // P10.1, P1
	spans := slices.Concat([]api.Span{from(0, 4), inside(-1, 1), on(0), up(0), on(edge), from(-edge, edge), from(-edge, -edge)}, nothings(), badSpans())
	for _, z := range wrong() {
		for _, s := range spans {
			cuts(t, z, s, api.Zone{}, api.ErrBad)
		}
	}
	for _, s := range badSpans() {
		for _, z := range []api.Zone{all, box, point, far, whole, put(all, 0, most(edge)), put(all, 3, less(-edge)), differing(from(1, 2)), differing(on(edge))} {
			cuts(t, z, s, api.Zone{}, api.ErrBad)
		}
	}
}

func TestWindow(t *testing.T) { // P10.1
	for _, c := range []struct {
		u         api.Span
		low, high int
		want      api.Span
		e         api.Errno
	}{
		// Nothing is cut.
		{from(1, 3), 0, 3, from(1, 3), api.OK}, {from(1, 3), 0, 4, from(1, 3), api.OK}, {above(1, 3), 1, 3, above(1, 3), api.OK}, {inside(1, 3), 1, 3, inside(1, 3), api.OK}, {from(2, 2), 1, 2, from(2, 2), api.OK}, {from(-3, -1), -4, 0, from(-3, -1), api.OK}, {from(1, 3), -edge, edge, from(1, 3), api.OK},
		// Something is.
		{from(1, 3), 1, 3, above(1, 3), api.OK}, {below(1, 3), 1, 3, inside(1, 3), api.OK}, {from(1, 9), 2, 5, above(2, 5), api.OK}, {inside(1, 9), 2, 5, above(2, 5), api.OK}, {from(1, 9), 0, 5, from(1, 5), api.OK}, {from(1, 9), 2, 9, above(2, 9), api.OK}, {below(1, 9), 2, 9, inside(2, 9), api.OK},
		{on(1), 0, 4, from(1, 4), api.OK}, {on(1), 1, 4, above(1, 4), api.OK}, {up(1), 1, 4, above(1, 4), api.OK}, {up(1), 0, 4, above(1, 4), api.OK}, {from(-5, -1), -4, -3, above(-4, -3), api.OK}, {from(-5, 5), -1, 0, above(-1, 0), api.OK},
		// They touch at the low end, that is not in the window.
		{from(1, 3), 3, 5, api.Span{}, api.ErrNone}, {below(1, 3), 3, 5, api.Span{}, api.ErrNone}, {from(3, 3), 3, 5, api.Span{}, api.ErrNone}, {inside(1, 3), 3, 4, api.Span{}, api.ErrNone}, {from(1, 3), 2, 5, above(2, 3), api.OK}, {below(1, 3), 2, 5, inside(2, 3), api.OK},
		// At the high end, that is in it.
		{from(5, 7), 3, 5, from(5, 5), api.OK}, {below(5, 7), 3, 5, from(5, 5), api.OK}, {on(5), 3, 5, from(5, 5), api.OK}, {from(5, 5), 4, 5, from(5, 5), api.OK}, {above(5, 7), 3, 5, api.Span{}, api.ErrNone}, {up(5), 3, 5, api.Span{}, api.ErrNone}, {inside(5, 7), 3, 5, api.Span{}, api.ErrNone},
		// Apart.
		{from(1, 2), 3, 5, api.Span{}, api.ErrNone}, {from(6, 7), 3, 5, api.Span{}, api.ErrNone}, {on(6), 3, 5, api.Span{}, api.ErrNone}, {from(-2, -1), 0, 1, api.Span{}, api.ErrNone}, {from(0, 0), edge - 1, edge, api.Span{}, api.ErrNone}, {from(0, 0), -edge, 1 - edge, api.Span{}, api.ErrNone}, {from(edge, edge), -edge, edge - 1, api.Span{}, api.ErrNone}, {from(-edge, -edge), -edge, edge, api.Span{}, api.ErrNone},
		// At the edges.
		{from(edge, edge), edge - 1, edge, from(edge, edge), api.OK}, {from(-edge, edge), -edge, edge, above(-edge, edge), api.OK}, {on(-edge), -edge, 1 - edge, above(-edge, 1-edge), api.OK}, {on(edge), edge - 1, edge, from(edge, edge), api.OK}, {up(edge), edge - 1, edge, api.Span{}, api.ErrNone},
	} {
		opens(t, ending(c.u), c.low, c.high, ending(c.want), c.e)
		with := ending(c.want)
		if c.e == api.OK {
			with = square(from(0, 0), c.want)
		}
		opens(t, square(from(0, 0), c.u), c.low, c.high, with, c.e)
	}
	for _, w := range [][2]int{{0, 1}, {-3, 9}, {-edge, edge}, {-edge, 1 - edge}, {edge - 1, edge}, {-edge, 0}, {0, edge}} {
		opens(t, all, w[0], w[1], ending(above(w[0], w[1])), api.OK)
	}
}

func TestWindowTellsWhatFollows(t *testing.T) { // P10.1
	opens(t, whole, 0, 4, whole, api.OK)
	opens(t, whole, -1, 9, whole, api.OK)
	opens(t, whole, 0, 1, api.Zone{less(1), most(0), most(1), less(0), most(1), less(0)}, api.OK)
	opens(t, whole, 3, 4, api.Zone{less(4), most(0), most(4), less(-3), most(4), less(0)}, api.OK)
	opens(t, whole, -1, 0, api.Zone{}, api.ErrNone)
	opens(t, box, 2, 3, api.Zone{less(2), most(0), most(3), less(-2), most(3), less(0)}, api.OK)
	opens(t, box, 0, 1, api.Zone{less(1), most(0), most(1), most(-1), most(1), less(0)}, api.OK)
	opens(t, point, 1, 2, point, api.OK)
	opens(t, point, 0, 1, api.Zone{}, api.ErrNone)
	opens(t, point, 2, 3, api.Zone{}, api.ErrNone)
	opens(t, far, -1, 0, far, api.OK)
	opens(t, far, 0, 1, api.Zone{}, api.ErrNone)
	opens(t, far, edge-1, edge, api.Zone{}, api.ErrNone)
	opens(t, square(inside(-1, 1), from(1, 9)), 2, 5, square(inside(-1, 1), above(2, 5)), api.OK)
	opens(t, square(below(-1, 0), inside(1, 5)), 2, 5, square(below(-1, 0), inside(2, 5)), api.OK)
	// Of t, and of how far both are apart.
	opens(t, differing(from(1, 3)), 4, 7, api.Zone{most(6), less(-1), most(7), less(-4), most(3), most(-1)}, api.OK)
	opens(t, differing(inside(1, 3)), 4, 7, api.Zone{less(6), less(-1), most(7), less(-4), less(3), less(-1)}, api.OK)
	opens(t, put(put(all, 0, most(2)), 1, less(0)), 4, 7, api.Zone{most(2), less(0), most(7), less(-4), less(7), less(-2)}, api.OK)
	opens(t, over(from(0, 9), from(0, 9), from(5, 6)), -3, 5, one(0, 5), api.OK)
	opens(t, over(from(0, 9), from(0, 9), above(5, 6)), -3, 5, api.Zone{}, api.ErrNone)
}

func TestWindowBeyondMaxConst(t *testing.T) { // P10.1
	for _, c := range sample.Additions() {
		n, strict := number(c.B)
		if n == -edge {
			continue // there is no such window
		}
		low, high, joins := -edge, n, [][2]int{{5, 0}, {1, 4}}
		if strict {
			low, high, joins = -n, edge, [][2]int{{4, 1}, {0, 5}}
		}
		// The bound that the zone has, and the one that it and the window's come to.
		for _, j := range joins {
			z := put(all, j[0], c.A)
			want := put(z, j[1], c.Sum)
			want[2], want[3] = most(high), less(-low)
			opens(t, z, low, high, want, c.E)
		}
	}
	// There is no pair, and numbers are beyond: that there is none is told first.
	opens(t, put(put(all, 3, less(-1)), 5, most(edge)), 0, 1, api.Zone{}, api.ErrNone)
	opens(t, put(put(all, 3, less(0)), 5, most(edge)), 0, 1, api.Zone{}, api.ErrBad)
	opens(t, put(put(all, 2, most(-1)), 4, most(edge)), -1, 1, api.Zone{}, api.ErrNone)
	opens(t, put(put(all, 2, most(-1)), 4, most(edge)), -2, 1, api.Zone{}, api.ErrBad)
	opens(t, far, -2, -1, api.Zone{}, api.ErrNone)
}

func TestWindowErrors(t *testing.T) { // P10.1, P1
	for _, w := range badWindows() {
		// Ahead of what there is, and of what it comes to: pairs at all, pairs that are apart from it, numbers that are beyond.
		for _, z := range []api.Zone{all, box, point, far, whole, ending(from(edge, edge)), ending(from(-9, -8)), put(all, 5, most(edge)), put(all, 4, less(-edge)), put(all, 0, most(-edge)), put(all, 1, most(edge))} {
			opens(t, z, w[0], w[1], api.Zone{}, api.ErrArg)
		}
	}
	for _, z := range wrong() {
		for _, w := range append(badWindows(), [2]int{0, 1}, [2]int{-9, 9}, [2]int{-edge, edge}) {
			opens(t, z, w[0], w[1], api.Zone{}, api.ErrBad)
		}
	}
}

func TestByTheWords(t *testing.T) { // P10.1, P10.2
	spans := []api.Span{from(0, 0), from(0, 2), above(0, 2), below(0, 2), inside(-1, 1), inside(1, 2), on(1), up(-2), above(1, 1), from(-edge, edge), from(edge, edge), inside(-edge, 0), on(edge), up(-edge)}
	windows := [][2]int{{0, 1}, {-1, 1}, {-3, -2}, {1, 5}, {-edge, edge}, {edge - 1, edge}, {-edge, 1 - edge}, {0, edge}, {-edge, -1}}
	ways := []int{0, 1, -1, 5, -7, edge, -edge, edge - 1, 1 - edge}
	count := map[string]map[api.Errno]int{"within": {}, "window": {}, "shift": {}}
	for _, z := range slices.Concat(every(5, small()), wide(), []api.Zone{all, box, point, far, whole}) {
		for _, s := range spans {
			want, e := withinByWords(z, s)
			cuts(t, z, s, want, e)
			count["within"][e]++
		}
		for _, w := range windows {
			want, e := windowByWords(z, w[0], w[1])
			opens(t, z, w[0], w[1], want, e)
			count["window"][e]++
		}
		for _, by := range ways {
			want, e := shiftByWords(z, by)
			goes(t, z, by, want, e)
			count["shift"][e]++
		}
	}
	for name, n := range count {
		if n[api.OK] < 1000 || n[api.ErrBad] < 1000 || name != "shift" && n[api.ErrNone] < 1000 {
			t.Error(name, n, "are too few to tell")
		}
	}
}

func TestShift(t *testing.T) { // P10.2
	goes(t, point, 3, one(4, 5), api.OK)
	goes(t, point, -3, one(-2, -1), api.OK)
	goes(t, box, 1, api.Zone{less(3), most(-1), most(4), most(-2), most(3), less(0)}, api.OK)
	goes(t, box, -2, api.Zone{less(0), most(2), most(1), most(1), most(3), less(0)}, api.OK)
	goes(t, one(0, 0), edge, one(edge, edge), api.OK)
	goes(t, one(0, 0), -edge, one(-edge, -edge), api.OK)
	goes(t, one(edge, edge), -edge, one(0, 0), api.OK)
	goes(t, far, -edge, one(0, -edge), api.OK)
	goes(t, far, -1, one(edge-1, -1), api.OK)
	goes(t, far, 1, api.Zone{}, api.ErrBad)
	goes(t, one(0, -edge), -1, api.Zone{}, api.ErrBad)
	goes(t, one(0, -edge), edge, far, api.OK)
	goes(t, square(inside(0, 2), on(5)), 3, square(inside(3, 5), on(8)), api.OK)
	goes(t, over(from(1, 2), up(0), from(1, 5)), -1, over(from(0, 1), up(-1), from(1, 5)), api.OK)
	for _, by := range []int{0, 1, -1, 7, -7, edge, -edge, edge - 1, 1 - edge} {
		goes(t, all, by, all, api.OK)
		// How far both are apart stays.
		for _, s := range []api.Span{from(0, 0), from(1, 3), inside(-3, -1), on(2), up(-2), from(-edge, edge), inside(-edge, edge), from(edge, edge), on(-edge), up(edge)} {
			goes(t, differing(s), by, differing(s), api.OK)
		}
	}
	for _, z := range append(every(3, small()), wide()...) {
		goes(t, z, 0, z, api.OK)
	}
}

func TestShiftOfOneBound(t *testing.T) { // P10.2
	// A bound of a time goes up, and the other way round down; those of how far both are apart stay, and so does none.
	ways := [6]int{1, -1, 1, -1, 0, 0}
	for i, way := range ways {
		for _, n := range []int{0, 1, -1, 5, -5, edge, -edge, edge - 1, 1 - edge, edge / 2, -edge / 2} {
			for _, of := range []func(int) api.Bound{most, less} {
				for _, by := range []int{0, 1, -1, 6, -6, edge, -edge, edge - 1, 1 - edge, edge / 2, -edge / 2, edge/2 + 1, -edge/2 - 1} {
					moved, wanted := n+way*by, api.OK
					if moved < -edge || moved > edge {
						wanted = api.ErrBad
					}
					goes(t, put(all, i, of(n)), by, put(all, i, of(moved)), wanted)
				}
			}
		}
	}
}

func TestShiftBeyondMaxConst(t *testing.T) { // P10.2
	// Just within, and just beyond, by each bound of a time.
	for _, c := range []struct {
		z        api.Zone
		well, to int
	}{
		{ending(from(0, edge)), 0, 1}, {ending(below(0, edge)), 0, 1}, {ending(from(-edge, 0)), 0, -1}, {ending(above(-edge, 0)), 0, -1},
		{ending(from(0, 5)), edge - 5, edge - 4}, {ending(below(0, 5)), edge - 5, edge - 4}, {ending(from(-7, 5)), 7 - edge, 6 - edge}, {ending(above(-7, 5)), 7 - edge, 6 - edge},
		{square(from(1, 3), from(2, 5)), edge - 5, edge - 4}, {square(from(1, 3), from(2, 5)), -edge, edge}, {square(from(1, 8), from(2, 5)), edge - 8, edge - 7}, {square(from(-4, 3), from(-6, 5)), 6 - edge, 5 - edge}, {square(from(-9, 3), from(-6, 5)), 9 - edge, 8 - edge},
		{point, edge - 2, edge - 1}, {point, -edge, edge}, {box, edge - 3, edge - 2}, {whole, edge - 4, edge - 3}, {whole, -edge, edge}, {far, 0, 1}, {far, -edge, edge},
	} {
		want, e := shiftByWords(c.z, c.well)
		if e != api.OK {
			t.Fatal(c)
		}
		goes(t, c.z, c.well, want, api.OK)
		goes(t, c.z, c.to, api.Zone{}, api.ErrBad)
	}
}

func TestShiftErrors(t *testing.T) { // P10.2, P1
	ways := []int{edge + 1, -edge - 1, edge + 2, 1 << 59, -1 << 59, 1 << 61, -1 << 61, 1<<61 + 1, 1 << 62, -1 << 62, great, least, least + 1}
	for _, by := range ways {
		// Ahead of what it comes to: nothing moves, it may be, it may not be.
		for _, z := range []api.Zone{all, box, point, far, whole, differing(from(1, 2)), one(-edge, -edge), one(edge, edge), put(all, 0, less(edge)), put(all, 1, most(edge))} {
			goes(t, z, by, api.Zone{}, api.ErrArg)
		}
	}
	for _, z := range wrong() {
		for _, by := range append(ways, 0, 1, -1, edge, -edge) {
			goes(t, z, by, api.Zone{}, api.ErrBad)
		}
	}
	// Beyond before, and within behind: it may not be handed in.
	goes(t, put(all, 0, most(edge+1)), -1, api.Zone{}, api.ErrBad)
	goes(t, put(all, 3, less(-edge-1)), -1, api.Zone{}, api.ErrBad)
	for _, z := range []api.Zone{all, box, point, far, whole} {
		if !sample.MayBe(z) {
			t.Error(z)
		}
	}
}
