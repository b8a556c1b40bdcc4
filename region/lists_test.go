package region_test

import (
	"slices"
	"testing"

	"rallentando/api"
	"rallentando/sample"
)

// some are lists of zones, in order and not, that have pairs in common and none, without bounds, and with numbers up to the limit.
func some() [][]api.Zone {
	whole, broad := over(from(0, 4), from(0, 4), up(0)), square(from(0, 4), from(0, 4))
	return [][]api.Zone{
		nil, zones(), zones(all), zones(box), zones(single), zones(far), zones(whole), zones(broad), zones(all, all), zones(single, single),
		// With pairs in common, and with none: on either side of one time, on both sides of one side.
		zones(single, box), zones(box, single), zones(whole, broad, single), zones(starting(from(0, 1)), starting(from(1, 2))), zones(starting(below(0, 1)), starting(from(1, 2))),
		zones(one(1, 2), one(0, 1)), zones(one(0, 1), one(1, 2), one(0, 2)), zones(ending(above(2, 3)), ending(from(0, 2))), zones(square(below(0, 1), above(1, 2)), square(above(0, 1), below(1, 2))),
		zones(differing(from(1, 1))), zones(differing(inside(0, 1)), differing(inside(1, 2))), zones(differing(from(2, 2)), differing(from(1, 1)), one(0, 3)), zones(differing(above(0, 1)), starting(from(2, 2))),
		// With no pair here: not at all, at the ends, of the other way round.
		zones(one(1, 1)), zones(one(2, 1)), zones(one(-1, 1)), zones(one(0, 17)), zones(starting(from(16, 99))), zones(starting(below(-9, 0))), zones(ending(on(17))), zones(ending(from(-3, 0))), zones(differing(from(-16, 0))), zones(differing(on(17))), zones(differing(above(16, 17))),
		zones(one(9, 9), box, far), zones(far, one(-1, -1), single), zones(differing(below(-9, 0)), one(3, 4)),
		// Without bounds, and up to the limit.
		zones(put(all, 0, most(edge))), zones(put(all, 1, most(edge))), zones(put(all, 3, less(-edge))), zones(put(all, 4, most(edge)), far), zones(put(all, 5, less(edge))), zones(put(all, 5, less(-edge))), zones(starting(from(-edge, edge))), zones(ending(inside(-edge, 2))), zones(differing(from(-edge, 1))), zones(differing(inside(1, edge)), ending(on(-edge))),
		zones(starting(up(0)), ending(up(1))), zones(put(all, 2, less(3)), put(all, 1, less(-2))),
	}
}

func TestList(t *testing.T) { // P14.2
	lists(t, nil, 2, nil, api.OK)
	lists(t, zones(single), 2, ints(3*(2*5+4)+1), api.OK)
	lists(t, zones(single), 1, nil, api.OK)
	lists(t, zones(one(0, 1), one(1, 2), one(0, 2)), 2, ints(3*2+1, 3*4+1, 3*(2*5+4)+1), api.OK)
	lists(t, zones(one(1, 2), one(0, 2), one(0, 1)), 2, ints(3*2+1, 3*4+1, 3*(2*5+4)+1), api.OK)
	lists(t, zones(all), 1, ints(4, 7, 12, 16), api.OK)
	lists(t, zones(differing(from(1, 1))), 2, ints(7, 25, 43), api.OK)
	lists(t, zones(over(from(0, 1), above(1, 2), from(1, 2))), 2, ints(10, 13, 24, 25, 28, 43), api.OK)
	for _, long := range longs() {
		l := regions(long)
		lists(t, zones(all), long, l, api.OK)
		lists(t, zones(all, all, single), long, l, api.OK)
		lists(t, zones(over(from(0, long), from(0, long), up(0))), long, l, api.OK)
		lists(t, zones(differing(below(-edge, 0)), far), long, nil, api.OK)
	}
	for _, long := range []int{1, 2, 3, 5, top} {
		for _, l := range some() {
			want := listed(l, long)
			lists(t, l, long, want, api.OK)
			// In whatever order, and with some twice.
			turned := slices.Clone(l)
			slices.Reverse(turned)
			lists(t, turned, long, want, api.OK)
			lists(t, slices.Concat(l, turned), long, want, api.OK)
		}
	}
}

func TestListByTheWords(t *testing.T) { // P14.2
	small, narrow := sample.SmallZones(), sample.NarrowZones()
	l := slices.Concat(sample.Every(41, small), narrow, sample.Every(31, sample.WideZones()), zones(all, box, single, far))
	for i := range 2000 {
		long := 1 + i%4
		a := sample.Picked(l, i, i%5)
		lists(t, a, long, listed(a, long), api.OK)
	}
	for i := range 20 {
		a := sample.Picked(l, i*101, i%4+1)
		lists(t, a, top-i%3, listed(a, top-i%3), api.OK)
	}
}

func TestListOfManyZones(t *testing.T) { // P14.2, P1
	// Lists of any length may be: no error of this chapter tells otherwise.
	for _, n := range []int{api.MaxList, api.MaxList + 1, 3 * api.MaxList} {
		lists(t, slices.Repeat(zones(one(0, 1)), n), 2, ints(7), api.OK)
		lists(t, append(slices.Repeat(zones(far), n), single), 2, ints(43), api.OK)
		lists(t, append(slices.Repeat(zones(single), n), api.Zone{}), 2, nil, api.ErrBad)
	}
}

func TestListOfZonesThatMayNotBe(t *testing.T) { // P14.2, P1
	for _, bad := range sample.BadZones() {
		for _, l := range [][]api.Zone{
			zones(bad), zones(bad, bad),
			zones(bad, box), zones(box, bad, single), zones(box, single, bad),
			// Behind those by which all is told already, or nothing.
			zones(all, bad), zones(all, all, bad, all), zones(far, bad), append(make([]api.Zone, 0, 9), far, one(-1, -1), bad),
		} {
			for _, long := range []int{1, 2, top} {
				lists(t, l, long, nil, api.ErrBad)
			}
		}
	}
	// What stands behind the end is none of them.
	lists(t, zones(single, api.Zone{})[:1], 2, ints(43), api.OK)
}

func TestComp(t *testing.T) { // P14.2
	// Of the length 2: t 0 and u 1, by its number; t 1 and u 2; t 0 and u 2.
	const first, second, both = 7, 43, 13
	comes(t, nil, nil, 2, nil, api.OK)
	comes(t, ints(), ints(first), 2, nil, api.OK)
	comes(t, ints(first), ints(second), 2, ints(both), api.OK)
	comes(t, ints(second), ints(first), 2, nil, api.OK)
	comes(t, ints(first), ints(first), 2, nil, api.OK)
	comes(t, ints(first, both), ints(first, second), 2, ints(both), api.OK)
	// 0 to within the first unit, from there to 1; with itself: t and u both within it.
	comes(t, ints(4), ints(22), 2, ints(first), api.OK)
	comes(t, ints(4), ints(18), 2, ints(4), api.OK)
	comes(t, ints(18), ints(18), 2, ints(18), api.OK)
	// Within the first unit, and 1 long from there; half and half: any order may come, or just one.
	comes(t, ints(18), ints(25), 2, ints(24), api.OK)
	comes(t, ints(26), ints(54), 2, ints(24, 25, 26), api.OK)
	comes(t, ints(25), ints(54), 2, ints(24), api.OK)
	comes(t, ints(22), ints(40), 2, ints(24, 25, 26), api.OK)
	comes(t, ints(24), ints(58), 2, ints(28), api.OK)
	// A time between is wanted for both: one behind the other at the same time, not about it.
	comes(t, ints(4), ints(25), 2, ints(10), api.OK)
	comes(t, ints(4, 7), ints(25, 43), 2, ints(10, 13), api.OK)
	for _, long := range longs() {
		l := regions(long)
		comes(t, l, l, long, l, api.OK)
		comes(t, l, nil, long, nil, api.OK)
		comes(t, nil, l, long, nil, api.OK)
		comes(t, nil, nil, long, nil, api.OK)
	}
}

func TestCompOfEachAndEach(t *testing.T) { // P14.2
	for long := 1; long <= 4; long++ {
		l, made := regions(long), made(long)
		for _, a := range l {
			for _, b := range l {
				comes(t, ints(a), ints(b), long, composed(made, ints(a), ints(b), long), api.OK)
			}
			comes(t, ints(a), l, long, composed(made, ints(a), l, long), api.OK)
			comes(t, l, ints(a), long, composed(made, l, ints(a), long), api.OK)
		}
	}
}

func TestCompByTheWords(t *testing.T) { // P14.2
	for _, long := range longs() {
		l, made := regions(long), made(long)
		for i := range 100 / long {
			a, b := share(l, i, i%8), share(l, i*7+3, (i+i/8)%7+1)
			comes(t, a, b, long, composed(made, a, b, long), api.OK)
			comes(t, l[i%len(l):], a, long, composed(made, l[i%len(l):], a, long), api.OK)
			comes(t, few(b), a, long, composed(made, few(b), a, long), api.OK)
		}
	}
}

func TestWithin(t *testing.T) { // P14.2
	l := regions(2)
	cuts(t, l, from(1, 1), 2, ints(7, 25, 43), api.OK)
	cuts(t, l, above(1, 2), 2, ints(10, 13, 24, 28), api.OK)
	cuts(t, l, from(2, 2), 2, ints(13), api.OK)
	cuts(t, l, above(2, 3), 2, nil, api.OK)
	cuts(t, l, on(2), 2, ints(13), api.OK)
	cuts(t, l, up(2), 2, nil, api.OK)
	cuts(t, l, from(-9, 0), 2, nil, api.OK)
	cuts(t, ints(7, 13, 25), from(1, 1), 2, ints(7, 25), api.OK)
	cuts(t, ints(13), from(1, 1), 2, nil, api.OK)
	spans := append(sample.NoSpans(), from(0, 1), above(0, 1), below(0, 1), inside(0, 1), from(1, 1), from(1, 2), above(1, 2), below(1, 2), inside(1, 2), inside(0, 2), from(-3, 1), inside(-1, 3), on(0), up(0), on(1), up(1), on(-7), up(-7), from(0, 0), from(16, 16), on(16), up(16), from(15, 17), above(16, 17), inside(15, 16),
		from(-edge, edge), inside(-edge, edge), on(-edge), up(-edge), on(edge), up(edge), from(edge, edge), from(-edge, -edge), from(edge-1, edge), from(-edge, 1-edge), below(1, edge), above(-edge, 1), from(-edge, -1))
	for _, long := range longs() {
		l := regions(long)
		for i, s := range spans {
			cuts(t, nil, s, long, nil, api.OK)
			cuts(t, ints(), s, long, nil, api.OK)
			cuts(t, l, s, long, spaced(l, s, long), api.OK)
			a := share(l, i, i%5+1)
			cuts(t, a, s, long, spaced(a, s, long), api.OK)
		}
	}
}

func TestWindow(t *testing.T) { // P14.2
	l := regions(2)
	opens(t, l, 0, 1, 2, ints(4, 7, 18, 22), api.OK)
	opens(t, l, 1, 2, 2, ints(10, 13, 24, 25, 26, 28, 40, 43, 54, 58), api.OK)
	opens(t, l, 0, 2, 2, l, api.OK)
	opens(t, l, -1, 0, 2, nil, api.OK)
	opens(t, l, 2, 3, 2, nil, api.OK)
	opens(t, ints(4, 7, 10, 13), 0, 1, 2, ints(4, 7), api.OK)
	opens(t, ints(4, 7, 10, 13), 1, 2, 2, ints(10, 13), api.OK)
	opens(t, ints(13), 0, 1, 2, nil, api.OK)
	// Windows that begin and end wherever it may be: no number is beyond what they may have.
	ends := []int{least, least + 1, -1 << 61, -edge - 1, -edge, -2, -1, 0, 1, 2, 3, 7, 15, 16, 17, 18, edge, edge + 1, 1 << 61, 1 << 62, great - 1, great}
	for _, long := range longs() {
		l := regions(long)
		for i, low := range ends {
			for _, high := range ends[i+1:] {
				opens(t, nil, low, high, long, nil, api.OK)
				opens(t, ints(), low, high, long, nil, api.OK)
				opens(t, l, low, high, long, windowed(l, low, high, long), api.OK)
				a := share(l, i, i%5+1)
				opens(t, a, low, high, long, windowed(a, low, high, long), api.OK)
			}
		}
		for i := range long {
			opens(t, l, i, i+1, long, windowed(l, i, i+1, long), api.OK)
		}
	}
}
