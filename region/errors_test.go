package region_test

import (
	"slices"
	"testing"

	"rallentando/api"
	"rallentando/sample"
)

// bads are lists of numbers that are no lists of regions of a length that may be.
func bads(long int) [][]int {
	l, others := regions(long), strangers(long)
	n, first, second, last := many(long), l[0], l[1], l[len(l)-1]
	lists := [][]int{
		// A number below 0, or one that there is not: alone, ahead, in the midst, behind.
		{-1}, {least}, {n}, {n + 1}, {great}, {1 << 32}, {1<<32 + first}, {-first}, {-1, first, second}, {least, first}, {first, n}, {first, second, great}, {first, -1, second}, {first, n, second}, {first, second, -1}, {n, n + 1}, {-2, -1}, append(slices.Clone(l), n), append(ints(-1), l...),
		// Not rising: twice, at once and later, and falling, ahead and behind.
		{first, first}, {last, last}, {second, first}, {last, first}, {first, second, second}, {first, first, second}, {first, last, second}, {second, first, last}, {first, second, first}, append(slices.Clone(l), last), append(slices.Clone(l), first), append(ints(first), l...), slices.Concat(l, l),
	}
	// No region's, and no more than that: alone, and where it stands in order.
	for _, other := range append(others[:4:4], others[len(others)-1], others[len(others)/2]) {
		at, _ := slices.BinarySearch(l, other)
		lists = append(lists, ints(other), slices.Insert(slices.Clone(l), at, other))
	}
	every := make([]int, n)
	for i := range every {
		every[i] = i
	}
	turned := slices.Clone(l)
	slices.Reverse(turned)
	return append(lists, others, every, turned)
}

// refused fails, unless all calls of lists of regions tell ErrBad of one, whatever else is handed in.
func refused(t *testing.T, bad []int, long int) {
	t.Helper()
	l := regions(long)
	for _, other := range [][]int{nil, {}, l[:1], l, bad, {-1}, {l[1], l[0]}} {
		comes(t, bad, other, long, nil, api.ErrBad)
		comes(t, other, bad, long, nil, api.ErrBad)
	}
	for _, s := range []api.Span{from(1, 1), up(0), above(1, 1), on(edge), from(2, 1), on(edge + 1), {High: 1, Open: true}} {
		cuts(t, bad, s, long, nil, api.ErrBad)
	}
	for _, w := range [][2]int{{0, 1}, {-1, 99}, {least, great}, {1, 1}, {2, 1}, {great, least}} {
		opens(t, bad, w[0], w[1], long, nil, api.ErrBad)
	}
}

func TestListsOfRegionsThatMayNotBe(t *testing.T) { // P14.2, P1
	for _, long := range []int{1, 2, 3, top} {
		for _, bad := range bads(long) {
			refused(t, bad, long)
		}
	}
	// What is a region's number of one length need not be one of another length's.
	refused(t, ints(12), 2)
	refused(t, ints(18), 3)
	refused(t, ints(58), 1)
	refused(t, ints(3*(30*33+31)+1), top-1)
	// What stands behind the end is none of them.
	l := append(regions(2), -1, 4)[:14]
	comes(t, l, l, 2, l, api.OK)
	cuts(t, l, up(0), 2, l, api.OK)
	opens(t, l, 0, 2, 2, l, api.OK)
}

func TestSpansThatMayNotBe(t *testing.T) { // P14.2, P1
	for _, long := range []int{1, 2, top} {
		l := regions(long)
		for _, s := range sample.BadSpans() {
			for _, a := range [][]int{nil, {}, l[:1], l, {-1}, {l[1], l[0]}} {
				cuts(t, a, s, long, nil, api.ErrBad)
			}
		}
	}
}

func TestWindowsThatMayNotBe(t *testing.T) { // P14.2, P1
	for _, long := range []int{1, 2, top} {
		l := regions(long)
		for _, n := range []int{0, 1, 2, -1, top, edge, -edge, edge + 1, 1 << 61, great, least, least + 1} {
			for _, low := range []int{n, max(n, n+1), great} {
				for _, a := range [][]int{nil, {}, l[:1], l} {
					opens(t, a, low, n, long, nil, api.ErrArg)
				}
				// The list is asked first.
				for _, a := range [][]int{{-1}, {l[1], l[0]}, {l[0], l[0]}, {many(long)}, {0}} {
					opens(t, a, low, n, long, nil, api.ErrBad)
				}
			}
		}
	}
}

func TestLengthsThatMayNotBe(t *testing.T) { // P14.1, P14.2, P1
	lists1 := [][]int{nil, {}, {4}, {4, 7, 12}, {7, 4}, {4, 4}, {-1}, {0}, {great}, {least}}
	zones1 := [][]api.Zone{nil, {}, zones(all), zones(box, single), zones(api.Zone{}), zones(single, api.Zone{})}
	for _, long := range badLongs() {
		counts(t, long, 0, api.ErrArg)
		for _, p := range []api.Point{at(0, 6), sample.Whole(0, 1), sample.Whole(1, 1), sample.Whole(2, 1), sample.Whole(-1, 1), sample.Whole(0, 99), {}, {T: by(0, 1)}, {U: by(1, 1)}} {
			numbers(t, p, long, 0, api.ErrArg)
		}
		for _, n := range []int{0, 1, 4, 7, 12, 75, -1, many(long), great, least} {
			points(t, n, long, api.Point{}, api.ErrArg)
			spans(t, n, long, api.Zone{}, api.ErrArg)
		}
		for _, l := range zones1 {
			lists(t, l, long, nil, api.ErrArg)
		}
		for _, a := range lists1 {
			for _, b := range lists1 {
				comes(t, a, b, long, nil, api.ErrArg)
			}
			for _, s := range append(sample.BadSpans(), up(0), from(1, 1), above(1, 1)) {
				cuts(t, a, s, long, nil, api.ErrArg)
			}
			for _, w := range [][2]int{{0, 1}, {1, 1}, {2, 1}, {least, great}, {great, least}} {
				opens(t, a, w[0], w[1], long, nil, api.ErrArg)
			}
		}
	}
}

func TestLengthsThatMayBe(t *testing.T) { // P14.1, P14.2
	for _, long := range []int{1, top} {
		counts(t, long, many(long), api.OK)
		numbers(t, at(0, 6), long, 4, api.OK)
		points(t, 4, long, at(0, 6), api.OK)
		spans(t, 4, long, over(from(0, 0), inside(0, 1), up(0)), api.OK)
		lists(t, zones(one(0, 1)), long, ints(7), api.OK)
		comes(t, ints(4), ints(7), long, nil, api.OK)
		cuts(t, ints(4, 7), from(1, 1), long, ints(7), api.OK)
		opens(t, ints(4, 7), 0, 1, long, ints(4, 7), api.OK)
	}
}
