package region_test

import (
	"math"
	"slices"
	"testing"

	"rallentando/api"
	"rallentando/region"
	"rallentando/sample"
)

const (
	edge   = sample.Edge
	none   = api.None
	top    = api.MaxSpan
	least  = math.MinInt
	great  = math.MaxInt
	twelve = 12 // times are told by twelfths: whole ones, halves, thirds and quarters are among these
)

// What bounds, zones, spans and points are written with.
var (
	most, less, by, put                = sample.Most, sample.Less, sample.By, sample.Put
	from, above, below, inside, on, up = sample.From, sample.Above, sample.Below, sample.Inside, sample.On, sample.Up
	over, square, one                  = sample.Over, sample.Square, sample.One
	starting, ending, differing        = sample.Starting, sample.Ending, sample.Differing
	all, box, single, far              = sample.All(), sample.Box(), sample.Single(), sample.Far()
)

// The calls, with the chapter's signatures.
var (
	_ func(int) (int, api.Errno)                    = region.Many
	_ func(api.Point, int) (int, api.Errno)         = region.Number
	_ func(int, int) (api.Point, api.Errno)         = region.Point
	_ func(int, int) (api.Zone, api.Errno)          = region.Zone
	_ func([]api.Zone, int) ([]int, api.Errno)      = region.List
	_ func([]int, []int, int) ([]int, api.Errno)    = region.Comp
	_ func([]int, api.Span, int) ([]int, api.Errno) = region.Within
	_ func([]int, int, int, int) ([]int, api.Errno) = region.Window
)

// badLongs are lengths that may not be.
func badLongs() []int {
	return []int{0, -1, -2, -top, top + 1, top + 2, 2 * top, 1 << 32, 1<<32 + 1, edge, -edge, great, great - 1, least, least + 1}
}

// longs are all lengths that may be.
func longs() []int {
	var l []int
	for long := 1; long <= top; long++ {
		l = append(l, long)
	}
	return l
}

// many is how many numbers there are.
func many(long int) int { return 3 * (2*long + 1) * (2*long + 1) }

// numbered is the number of the region of a pair of times by a unit.
func numbered(unit, t, u, long int) int {
	placed := func(x int) int { return x/unit + (x+unit-1)/unit }
	order := 1
	if part, other := t%unit, u%unit; part > 0 && other > 0 && part != other {
		order = 0
		if part > other {
			order = 2
		}
	}
	return (placed(t)*(2*long+1)+placed(u))*3 + order
}

// pairs goes through all pairs here by a unit.
func pairs(unit, long int, do func(t, u int)) {
	for u := range unit*long + 1 {
		for t := range u {
			do(t, u)
		}
	}
}

// regionsThat are the regions of all pairs of which something is so, rising; all of a region's pairs are asked by twelfths.
func regionsThat(long int, so func(t, u int) bool) []int {
	marked := make([]bool, many(long))
	pairs(twelve, long, func(t, u int) {
		if so(t, u) {
			marked[numbered(twelve, t, u, long)] = true
		}
	})
	return rising(marked)
}

// rising are the numbers that are marked.
func rising(marked []bool) []int {
	var l []int
	for n, is := range marked {
		if is {
			l = append(l, n)
		}
	}
	return l
}

// regions are all there are.
func regions(long int) []int {
	return regionsThat(long, func(t, u int) bool { return true })
}

// strangers are all numbers that are no region's.
func strangers(long int) []int {
	l := make([]bool, many(long))
	for n := range l {
		l[n] = true
	}
	for _, n := range regions(long) {
		l[n] = false
	}
	return rising(l)
}

// pointed is a region's point by twelfths.
func pointed(n, long int) (t, u int) {
	t, u = n/3/(2*long+1), n/3%(2*long+1)
	partT, partU := 6, 6
	if t%2 == 1 && u%2 == 1 {
		partT, partU = []int{4, 6, 8}[n%3], []int{8, 6, 4}[n%3]
	}
	return t/2*twelve + t%2*partT, u/2*twelve + u%2*partU
}

// zoned is the zone of a region's pairs, by the spans of its times, and of u less t, that are told by its places and its order.
func zoned(n, long int) api.Zone {
	t, u := n/3/(2*long+1), n/3%(2*long+1)
	time := func(place int) api.Span {
		if place%2 == 0 {
			return from(place/2, place/2)
		}
		return inside(place/2, place/2+1)
	}
	if t%2 == 0 || u%2 == 0 {
		return over(time(t), time(u), up(0))
	}
	d := u/2 - t/2
	return over(time(t), time(u), []api.Span{inside(d, d+1), from(d, d), inside(d-1, d)}[n%3])
}

// made are the regions of all pairs (t, u), by those of (t, s) and of (s, u). All three times are told by quarters: they have no more than three fraction parts that are not 0.
func made(long int) map[[2]int][]int {
	l := map[[2]int][]int{}
	pairs(4, long, func(t, u int) {
		n := numbered(4, t, u, long)
		for s := t + 1; s < u; s++ {
			two := [2]int{numbered(4, t, s, long), numbered(4, s, u, long)}
			if !slices.Contains(l[two], n) {
				l[two] = append(l[two], n)
			}
		}
	})
	return l
}

// composed are the regions that two lists come to, by what is made of one of each.
func composed(made map[[2]int][]int, a, b []int, long int) []int {
	marked := make([]bool, many(long))
	for _, first := range a {
		for _, second := range b {
			for _, n := range made[[2]int{first, second}] {
				marked[n] = true
			}
		}
	}
	return rising(marked)
}

// listed are the regions of zones.
func listed(l []api.Zone, long int) []int {
	return regionsThat(long, func(t, u int) bool {
		return slices.ContainsFunc(l, func(z api.Zone) bool { return sample.HasBy(twelve, z, t, u) })
	})
}

// those are the numbers of a list of whose region's point by twelfths something is so.
func those(l []int, long int, so func(t, u int) bool) []int {
	var some []int
	for _, n := range l {
		if so(pointed(n, long)) {
			some = append(some, n)
		}
	}
	return some
}

// spaced are the regions of a list within a span.
func spaced(l []int, s api.Span, long int) []int {
	return those(l, long, func(t, u int) bool {
		z := put(all, 4, none)
		z[4], z[5] = sample.Ends(s)
		return sample.HasBy(twelve, z, t, u)
	})
}

// windowed are the regions of a list in a window.
func windowed(l []int, low, high, long int) []int {
	// Numbers beyond all times here are as good as the nearest ones, which may be told by twelfths.
	low, high = min(max(low, -1), top), min(max(high, -1), top)
	return those(l, long, func(_, u int) bool { return u > low*twelve && u <= high*twelve })
}

// share are some of each seven of a list, always the same ones for each number: of 0 none, of 7 all.
func share(l []int, number, of int) []int {
	var some []int
	for i, n := range l {
		if (i*i*5+i*number+number/3+i/11)%7 < of {
			some = append(some, n)
		}
	}
	return some
}

// zones are some, as they are written.
func zones(l ...api.Zone) []api.Zone { return l }

// ints are some, as they are written.
func ints(l ...int) []int { return l }

// few are the first ones of some, if there are too many to be told.
func few[T any](l []T) []T { return l[:min(len(l), 9)] }

// at is a pair of times by twelfths.
func at(t, u int) api.Point { return api.Point{T: by(t, twelve), U: by(u, twelve)} }

// counts fails, unless there are so many numbers; beside an error 0.
func counts(t *testing.T, long, want int, e api.Errno) {
	t.Helper()
	if got, f := region.Many(long); got != want || e != f {
		t.Fatalf("Many(%d) = %d, %d, want %d, %d", long, got, f, want, e)
	}
}

// numbers fails, unless that is the number of a point's region; beside an error 0.
func numbers(t *testing.T, p api.Point, long, want int, e api.Errno) {
	t.Helper()
	if got, f := region.Number(p, long); got != want || e != f {
		t.Fatalf("Number(%v, %d) = %d, %d, want %d, %d", p, long, got, f, want, e)
	}
}

// points fails, unless that is a region's point; beside an error none.
func points(t *testing.T, n, long int, want api.Point, e api.Errno) {
	t.Helper()
	if got, f := region.Point(n, long); got != want || e != f {
		t.Fatalf("Point(%d, %d) = %v, %d, want %v, %d", n, long, got, f, want, e)
	}
}

// spans fails, unless that is a region's zone; beside an error none.
func spans(t *testing.T, n, long int, want api.Zone, e api.Errno) {
	t.Helper()
	if got, f := region.Zone(n, long); got != want || e != f {
		t.Fatalf("Zone(%d, %d) = %v, %d, want %v, %d", n, long, got, f, want, e)
	}
}

// lists fails, unless these are the regions of zones; beside an error none.
func lists(t *testing.T, l []api.Zone, long int, want []int, e api.Errno) {
	t.Helper()
	got, f := region.List(l, long)
	told(t, "List", got, f, want, e, few(l), long)
}

// comes fails, unless these are the regions that two lists come to; beside an error none.
func comes(t *testing.T, a, b []int, long int, want []int, e api.Errno) {
	t.Helper()
	got, f := region.Comp(a, b, long)
	told(t, "Comp", got, f, want, e, few(a), few(b), long)
}

// cuts fails, unless these are the regions of a list within a span; beside an error none.
func cuts(t *testing.T, a []int, s api.Span, long int, want []int, e api.Errno) {
	t.Helper()
	got, f := region.Within(a, s, long)
	told(t, "Within", got, f, want, e, few(a), s, long)
}

// opens fails, unless these are the regions of a list in a window; beside an error none.
func opens(t *testing.T, a []int, low, high, long int, want []int, e api.Errno) {
	t.Helper()
	got, f := region.Window(a, low, high, long)
	told(t, "Window", got, f, want, e, few(a), low, high, long)
}

// told fails, unless a call answered just these, in this order; beside an error none.
func told(t *testing.T, name string, got []int, e api.Errno, want []int, wanted api.Errno, of ...any) {
	t.Helper()
	if !slices.Equal(got, want) || e != wanted {
		t.Fatalf("%s%v = %d: %v, %d, want %d: %v, %d", name, of, len(got), few(got), e, len(want), few(want), wanted)
	}
}
