package win_test

import (
	"slices"
	"testing"

	"rallentando/api"
	"rallentando/sample"
	"rallentando/win"
	"rallentando/zone"
)

// Spans, windows and ways of small numbers.
var (
	fewSpans   = []api.Span{from(0, 0), from(0, 2), above(0, 2), below(0, 2), inside(0, 2), inside(0, 1), from(-1, 1), inside(2, 3), from(-3, -2), above(-2, -1), on(1), up(1), on(-2), up(-3), above(1, 1), inside(0, 0)}
	fewWindows = [][2]int{{0, 1}, {0, 2}, {1, 2}, {2, 3}, {-1, 0}, {-1, 1}, {-3, -2}, {-2, 3}}
	fewWays    = []int{0, 1, -1, 2, -2, 3, -3}
)

// reach is how far times by quarters go, which tell small zones with bounds more of small numbers.
const reach = 4 * 7

// grid goes through pairs of times by quarters.
func grid(do func(t, u int)) {
	for t := -reach; t <= reach; t++ {
		for u := -reach; u <= reach; u++ {
			do(t, u)
		}
	}
}

// holdsJust fails, unless a call answered just the pairs of which it is said, and none just if there are none.
func holdsJust(t *testing.T, name string, z api.Zone, e api.Errno, said func(t, u int) bool) {
	t.Helper()
	if e != api.OK && e != api.ErrNone {
		t.Fatalf("%s = %v, %d", name, z, e)
	}
	found := false
	grid(func(at, to int) {
		is := said(at, to)
		found = found || is
		if is != (e == api.OK && has(z, at, to)) {
			t.Fatalf("%s = %v, %d; %d, %d by quarters: %t", name, z, e, at, to, is)
		}
	})
	if found != (e == api.OK) {
		t.Fatalf("%s = %v, %d; some pair: %t", name, z, e, found)
	}
	if e == api.OK && zone.Check(z) != api.OK {
		t.Fatalf("%s = %v, which may not be", name, z)
	}
}

func TestPairs(t *testing.T) { // P10.1, P10.2, P10.4
	count := map[api.Errno]int{}
	for _, z := range append(every(67, small()), all, box, point, whole) {
		for _, s := range fewSpans {
			got, e := win.Within(z, s)
			holdsJust(t, "Within", got, e, func(t, u int) bool { return has(z, t, u) && isIn(u-t, s) })
			count[e]++
		}
		for _, w := range fewWindows {
			got, e := win.Window(z, w[0], w[1])
			holdsJust(t, "Window", got, e, func(t, u int) bool { return has(z, t, u) && u > 4*w[0] && u <= 4*w[1] })
			count[e]++
		}
		for _, by := range fewWays {
			got, e := win.Shift(z, by)
			holdsJust(t, "Shift", got, e, func(t, u int) bool { return has(z, t-4*by, u-4*by) })
		}
	}
	if count[api.OK] < 500 || count[api.ErrNone] < 500 {
		t.Error(count, "are too few to tell")
	}
}

// Spans, windows and ways, those with numbers at the edges among them.
var (
	someSpans   = append(fewSpans, from(-edge, edge), inside(-edge, 0), from(edge, edge), on(edge), up(-edge), below(1, edge), from(-5, 7))
	someWindows = append(fewWindows, [2]int{-edge, edge}, [2]int{-edge, 1 - edge}, [2]int{edge - 1, edge}, [2]int{-edge, 0}, [2]int{0, edge}, [2]int{-7, 9})
	someWays    = append(fewWays, edge, -edge, edge-1, 1-edge, 1<<40, -1<<40)
)

// some are small zones, and those with numbers at the edges.
func some() []api.Zone {
	return slices.Concat(every(31, small()), every(17, wide()), []api.Zone{all, box, point, far, whole})
}

// answer is the zone that a call answers, or the error beside none.
type answer struct {
	z api.Zone
	e api.Errno
}

func within(z api.Zone, s api.Span) answer {
	got, e := win.Within(z, s)
	return answer{got, e}
}

func window(z api.Zone, low, high int) answer {
	got, e := win.Window(z, low, high)
	return answer{got, e}
}

func TestWhichComesFirst(t *testing.T) { // P10.4
	count := map[api.Errno]int{}
	for _, z := range some() {
		for _, s := range someSpans {
			for _, w := range someWindows {
				one, other := within(z, s), window(z, w[0], w[1])
				// With numbers that may not be on the way there is nothing to go on with.
				if one.e == api.ErrBad || other.e == api.ErrBad {
					continue
				}
				if one.e == api.OK {
					one = window(one.z, w[0], w[1])
				}
				if other.e == api.OK {
					other = within(other.z, s)
				}
				if one != other {
					t.Fatalf("of %v, %v and %v: %v, %v", z, s, w, one, other)
				}
				count[one.e]++
			}
		}
	}
	if count[api.OK] < 1000 || count[api.ErrNone] < 1000 || count[api.ErrBad] < 100 {
		t.Error(count, "are too few to tell")
	}
}

func TestWindowsThatFollowOneAnother(t *testing.T) { // P10.4
	both, one := 0, 0
	for _, z := range some() {
		for _, c := range [][3]int{{0, 1, 2}, {-1, 0, 1}, {-2, 1, 3}, {0, 2, 3}, {-3, -2, 0}, {-edge, 0, edge}, {-edge, 1 - edge, 1}, {0, edge - 1, edge}} {
			early, late, long := window(z, c[0], c[1]), window(z, c[1], c[2]), window(z, c[0], c[2])
			if early.e == api.ErrBad || late.e == api.ErrBad || long.e == api.ErrBad {
				continue
			}
			// Each has the pairs of both together: one of them, and the other one.
			for _, a := range []answer{early, late} {
				if a.e != api.OK {
					continue
				}
				if is, e := zone.In(a.z, long.z); !is || e != api.OK {
					t.Fatalf("of %v, %v: %v is not in %v", z, c, a, long)
				}
			}
			if early.e == api.ErrNone && long != late || late.e == api.ErrNone && long != early {
				t.Fatalf("of %v, %v: %v, %v, together %v", z, c, early, late, long)
			}
			if early.e == api.OK && late.e == api.OK {
				if shared, e := zone.Meet(early.z, late.z); e != api.ErrNone {
					t.Fatalf("of %v, %v: %v, %v have %v, %d", z, c, early, late, shared, e)
				}
				both++
			} else {
				one++
			}
		}
	}
	if both < 500 || one < 500 {
		t.Errorf("%d that have pairs in both, and %d that have not, are too few to tell", both, one)
	}
}

func TestLesserWindowsAndSpans(t *testing.T) { // P10.4
	for _, z := range some() {
		for _, a := range []answer{within(z, from(0, 2)), within(z, up(1)), window(z, 0, 2), window(z, -edge, edge)} {
			if a.e != api.OK {
				continue
			}
			if is, e := zone.In(a.z, z); !is || e != api.OK {
				t.Fatalf("of %v %v", z, a)
			}
		}
		// Twice cuts nothing more.
		for _, s := range someSpans {
			if a := within(z, s); a.e == api.OK {
				cuts(t, a.z, s, a.z, api.OK)
			}
		}
		for _, w := range someWindows {
			if a := window(z, w[0], w[1]); a.e == api.OK {
				opens(t, a.z, w[0], w[1], a.z, api.OK)
			}
		}
	}
}

func TestLaterAndSooner(t *testing.T) { // P10.4
	count := map[api.Errno]int{}
	for _, z := range append(every(3, small()), wide()...) {
		for _, by := range someWays {
			later, e := win.Shift(z, by)
			count[e]++
			if e == api.OK {
				goes(t, later, -by, z, api.OK)
			}
		}
	}
	if count[api.OK] < 1000 || count[api.ErrBad] < 1000 {
		t.Error(count, "are too few to tell")
	}
}

func TestLaterWindows(t *testing.T) { // P10.4
	for _, z := range append(every(31, small()), all, box, point, whole) {
		for _, by := range fewWays {
			later, e := win.Shift(z, by)
			if e != api.OK {
				t.Fatal(z, by, e)
			}
			for _, w := range fewWindows {
				want := window(z, w[0], w[1])
				if want.e == api.OK {
					want.z, want.e = win.Shift(want.z, by)
				}
				opens(t, later, w[0]+by, w[1]+by, want.z, want.e)
			}
			for _, s := range fewSpans {
				want := within(z, s)
				if want.e == api.OK {
					want.z, want.e = win.Shift(want.z, by)
				}
				cuts(t, later, s, want.z, want.e)
			}
		}
	}
}

// answers are all that is said of a zone.
type answers [3]answer

func TestAnswersHangOnArgumentsAlone(t *testing.T) { // P10.3, P2
	l := append(some(), wrong()...)
	held := slices.Clone(l)
	spans, windows, ways := slices.Concat(someSpans, badSpans()), slices.Concat(someWindows, badWindows()), slices.Concat(someWays, []int{edge + 1, least})
	one := func(i int) (x answers) {
		w := windows[i*5%len(windows)]
		x[0] = within(l[i], spans[i*7%len(spans)])
		x[1] = window(l[i], w[0], w[1])
		x[2].z, x[2].e = win.Shift(l[i], ways[i*3%len(ways)])
		return x
	}
	for _, i := range sample.Turned(len(l), one) {
		t.Errorf("of %v, and then %v", l[i], one(i))
	}
	if !slices.Equal(l, held) {
		t.Error("what was handed in is another one")
	}
}
