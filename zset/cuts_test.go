package zset_test

import (
	"slices"
	"testing"

	"rallentando/api"
	"rallentando/sample"
)

func TestWithin(t *testing.T) { // P13.3
	for _, s := range []api.Span{from(0, 1), up(0), on(-3), above(1, 1), from(-edge, edge), inside(0, 0)} {
		cuts(t, nil, s, nil, api.OK)
		cuts(t, zones(), s, nil, api.OK)
	}
	cuts(t, zones(whole), from(1, 2), zones(over(from(0, 3), from(1, 4), from(1, 2))), api.OK)
	cuts(t, zones(whole), up(0), zones(whole), api.OK)
	cuts(t, zones(first, second), up(0), zones(first, second), api.OK)
	cuts(t, zones(second, whole, first), on(-9), zones(first, second), api.OK)
	cuts(t, zones(broad), above(0, 1), zones(over(from(0, 4), from(0, 4), above(0, 1))), api.OK)
	// Of some zones nothing comes: the first one, one between, the last one; and of all, also by a span that has nothing in it.
	cuts(t, zones(far, whole), from(3, 4), zones(over(from(0, 1), from(3, 4), from(3, 4))), api.OK)
	cuts(t, zones(first, one(3, 3), far, second), from(1, 9), zones(over(from(0, 1), from(1, 4), from(1, 4)), over(from(1, 3), from(2, 4), from(1, 3))), api.OK)
	cuts(t, zones(one(1, 4), one(1, 2), one(0, 0)), from(1, 3), zones(one(1, 2), one(1, 4)), api.OK)
	cuts(t, zones(whole, first, second), from(5, 6), nil, api.OK)
	for _, s := range sample.NoSpans() {
		cuts(t, zones(whole, all, far, one(0, 0)), s, nil, api.OK)
	}
	// What comes of one lies in what comes of another one, or is covered by some, though the zones are not.
	cuts(t, zones(over(from(0, 4), from(0, 4), from(0, 1)), over(from(0, 4), from(0, 4), from(-1, 1))), on(0), zones(over(from(0, 4), from(0, 4), from(0, 1))), api.OK)
	cuts(t, zones(differing(from(0, 2)), differing(from(2, 4)), differing(from(-1, 3))), above(0, 3), zones(differing(above(0, 2)), differing(from(2, 3))), api.OK)
	cuts(t, zones(square(from(0, 4), from(0, 2)), square(from(0, 4), from(2, 4))), from(0, 0), zones(over(from(0, 2), from(0, 2), from(0, 0)), over(from(2, 4), from(2, 4), from(0, 0))), api.OK)
}

func TestWindow(t *testing.T) { // P13.3
	for _, w := range [][2]int{{0, 1}, {-9, 9}, {-edge, edge}, {edge - 1, edge}} {
		opens(t, nil, w[0], w[1], nil, api.OK)
		opens(t, zones(), w[0], w[1], nil, api.OK)
	}
	opens(t, zones(whole), 2, 3, zones(over(from(0, 4), above(2, 3), up(0))), api.OK)
	opens(t, zones(first, second), -1, 9, zones(first, second), api.OK)
	opens(t, zones(second, whole, first), -edge, edge, zones(first, second), api.OK)
	opens(t, zones(first, second), 1, 2, zones(over(from(0, 1), above(1, 2), up(0)), over(from(1, 2), above(1, 2), up(0))), api.OK)
	// At its beginning nothing is in it, at its end all is.
	opens(t, zones(one(1, 1), one(1, 2), one(1, 3), one(1, 4)), 1, 3, zones(one(1, 2), one(1, 3)), api.OK)
	// Of some zones nothing comes: the first one, one between, the last one; and of all.
	opens(t, zones(far, whole), 3, 9, zones(over(from(0, 4), above(3, 4), up(0))), api.OK)
	opens(t, zones(first, far, one(9, 9), second), 0, 4, zones(first, second), api.OK)
	opens(t, zones(one(2, 2), one(1, 2), one(0, 0)), 1, 3, zones(one(1, 2), one(2, 2)), api.OK)
	opens(t, zones(whole, first, second), 4, 5, nil, api.OK)
	// What comes of one lies in what comes of another one, though the zones do not.
	opens(t, zones(square(from(0, 4), from(2, 9)), square(from(0, 5), from(0, 3))), 1, 3, zones(square(from(0, 5), above(1, 3))), api.OK)
	opens(t, zones(square(from(0, 2), from(2, 9)), square(from(2, 4), from(2, 8)), square(from(1, 3), from(0, 3))), 1, 3, zones(square(from(0, 2), from(2, 3)), square(from(1, 3), above(1, 3)), square(from(2, 4), from(2, 3))), api.OK)
}

// someLists are none, zones of which mostly nothing comes, and those that tell an error of their own.
func someLists() [][]api.Zone {
	return [][]api.Zone{nil, zones(), zones(whole), zones(first, second), zones(far), zones(one(9, 9), all), zones(upper), zones(beyond, upper), zones(put(all, 5, most(edge)), point), times(9, point)}
}

func TestSpansAndNumbersThatMayNotBe(t *testing.T) { // P13.3, P1
	for _, l := range someLists() {
		for _, s := range badSpans() {
			cuts(t, l, s, nil, api.ErrBad)
		}
		for _, w := range badWindows() {
			opens(t, l, w[0], w[1], nil, api.ErrArg)
		}
	}
	// At the edges of what may be.
	for _, s := range []api.Span{from(-edge, edge), from(edge, edge), inside(-edge, edge), on(edge), up(-edge), above(edge, edge)} {
		cuts(t, nil, s, nil, api.OK)
	}
	cuts(t, zones(all, all), from(-edge, edge), zones(differing(from(-edge, edge))), api.OK)
	opens(t, zones(all, all), -edge, edge, zones(ending(above(-edge, edge))), api.OK)
}

func TestWithinWithErrors(t *testing.T) { // P13.3
	s := from(0, 1)
	cuts(t, zones(upper), s, nil, api.ErrBad)
	// Behind some of which nothing comes, and some of which something does; whatever is behind it.
	cuts(t, zones(far, upper), s, nil, api.ErrBad)
	cuts(t, zones(far, one(3, 9), upper, point), s, nil, api.ErrBad)
	cuts(t, zones(point, far, upper, all), s, nil, api.ErrBad)
	cuts(t, zones(all, upper), s, nil, api.ErrBad)
	// All that the others have no error of: within another span there is none.
	cuts(t, zones(far, upper), from(-9, 0), zones(put(put(put(upper, 2, most(edge)), 4, most(0)), 5, most(9))), api.OK)
	// Of what is wanted.
	cuts(t, zones(upper, beyond), on(-9), nil, api.ErrBad)
	cuts(t, net(), from(-200, 200), nil, api.ErrMany)
	cuts(t, append(net(), upper), from(-200, 200), nil, api.ErrBad)
	cuts(t, append(net(), upper), from(300, 200), nil, api.ErrBad)
	cuts(t, stuck(), on(-edge), stuck()[:2], api.OK)
	cuts(t, stuck()[:2], on(-edge), nil, api.ErrBad)
}

func TestWindowWithErrors(t *testing.T) { // P13.3
	// t at most 2^58 above u, which is up to 1.
	late := put(all, 5, most(edge))
	opens(t, zones(late), 0, 1, nil, api.ErrBad)
	opens(t, zones(late), -1, 0, zones(api.Zone{most(edge), none, most(0), less(1), none, most(edge)}), api.OK)
	opens(t, zones(one(9, 9), late), 0, 1, nil, api.ErrBad)
	opens(t, zones(one(9, 9), point, one(7, 7), late, all), 0, 2, nil, api.ErrBad)
	opens(t, zones(one(1, 1), one(9, 9), late), 0, 1, nil, api.ErrBad)
	opens(t, zones(one(9, 9), late), 1, 1, nil, api.ErrArg)
	opens(t, net(), -9, 200, nil, api.ErrMany)
	opens(t, append(net(), late), -9, 200, nil, api.ErrBad)
	opens(t, append(net(), late), 200, -9, nil, api.ErrArg)
}

func TestEachByTheWords(t *testing.T) { // P13.3, P13.6
	spans := []api.Span{from(0, 2), above(0, 1), inside(-1, 2), on(1), up(-2), above(1, 1), from(-edge, edge), inside(-edge, 0), on(edge), up(-edge), below(1, edge), from(0, 0)}
	windows := [][2]int{{0, 1}, {-1, 1}, {-3, 2}, {1, 5}, {-edge, edge}, {edge - 1, edge}, {-edge, 1 - edge}, {0, edge}, {-edge, -1}, {-2, 0}}
	count := map[string]map[api.Errno]int{"Within": {}, "Window": {}}
	for _, l := range [][]api.Zone{slices.Concat(every(41, small()), narrow(), stuff), append(every(7, wide()), stuff...), slices.Concat(every(31, wide()), stuck(), asked(), zones(upper, beyond, long, all))} {
		for i := range 4000 {
			some := picked(l, i, i%6)
			s, w := spans[i*5%len(spans)], windows[i*7%len(windows)]
			want, e := withinByWords(some, s)
			cuts(t, some, s, want, e)
			settled(t, want)
			count["Within"][e]++
			want, e = windowByWords(some, w[0], w[1])
			opens(t, some, w[0], w[1], want, e)
			settled(t, want)
			count["Window"][e]++
		}
	}
	for name, n := range count {
		if n[api.OK] < 1000 || n[api.ErrBad] < 1000 {
			t.Error(name, n, "are too few to tell")
		}
	}
}
