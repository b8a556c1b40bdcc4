package incl_test

import (
	"math"
	"math/big"
	"reflect"
	"slices"
	"testing"

	"rallentando/api"
	"rallentando/bound"
	"rallentando/dbm"
	"rallentando/incl"
	"rallentando/sample"
	"rallentando/tight"
)

const (
	edge  = 1 << 58
	none  = api.None
	least = math.MinInt
	great = math.MaxInt
)

// What matrices are written with.
var (
	most, less           = sample.Most, sample.Less
	of, full, with, free = sample.Of, sample.Full, sample.With, sample.Free
)

// asks is one of the calls that ask of two how they lie to each other.
type asks func(api.Dbm, api.Dbm) (bool, api.Errno)

// The calls, with the chapter's signatures.
var (
	_ asks                                 = incl.In
	_ asks                                 = incl.Apart
	_ func(api.Dbm) ([]api.Rat, api.Errno) = incl.Pick
)

// keeps tells whether times keep a matrix that may be.
func keeps(t *testing.T, d api.Dbm, times []api.Rat) bool {
	t.Helper()
	is, e := dbm.Keeps(d, times)
	if e != api.OK {
		t.Fatalf("Keeps(%v, %v): %d", d, times, e)
	}
	return is
}

// over is a fraction in lowest terms.
func over(n, by int) api.Rat { return api.Rat{Num: n, Den: by} }

// at are whole times.
func at(l ...int) []api.Rat {
	var times []api.Rat
	for _, n := range l {
		times = append(times, over(n, 1))
	}
	return times
}

// put is a matrix of so many clocks that says nothing but some bounds.
func put(clocks int, l ...bounds) api.Dbm {
	d := free(clocks)
	for _, x := range l {
		d = with(d, x.i, x.j, x.b)
	}
	return d
}

// bounds are one of clock i less clock j.
type bounds struct {
	i, j int
	b    api.Bound
}

// told fails, unless a call answered just that; beside an error that is false.
func told(t *testing.T, name string, a, b api.Dbm, is bool, e api.Errno, want bool, wanted api.Errno) {
	t.Helper()
	if is != (want && wanted == api.OK) || e != wanted {
		t.Errorf("%s(%v, %v) = %t, %d, want %t, %d", name, a, b, is, e, want, wanted)
	}
}

// picked fails, unless Pick answered just that; beside an error that is none.
func picked(t *testing.T, d api.Dbm, want []api.Rat, wanted api.Errno) {
	t.Helper()
	times, e := incl.Pick(d)
	if !slices.Equal(times, want) || e != wanted || e != api.OK && times != nil {
		t.Errorf("Pick(%v) = %v, %d, want %v, %d", d, times, e, want, wanted)
	}
}

func TestExamples(t *testing.T) { // P6.1, P6.2
	a, b := of(2, 1, -3, 9, 1), of(2, 1, -1, none, 1)
	is, e := incl.In(a, b)
	told(t, "In", a, b, is, e, true, api.OK)
	is, e = incl.In(b, a)
	told(t, "In", b, a, is, e, false, api.OK)
	for _, b := range []api.Dbm{of(2, 1, -8, none, 1), of(2, 1, -7, none, 1)} {
		a := of(2, 1, none, 7, 1)
		is, e := incl.Apart(a, b)
		told(t, "Apart", a, b, is, e, true, api.OK)
	}
	picked(t, of(2, 1, -3, 9, 1), at(2), api.OK)
	picked(t, of(2, 1, -4, 6, 1), []api.Rat{over(5, 2)}, api.OK)
	picked(t, free(2), at(0), api.OK)
}

func TestTwo(t *testing.T) { // P6.1
	box := of(3, 1, most(-1), most(-1), most(4), 1, most(3), most(6), most(5), 1) // x from 1 to 4, y from 1 to 6
	up := put(4, bounds{1, 0, most(1)}, bounds{2, 1, most(1)}, bounds{3, 2, most(1)})
	far := put(4, bounds{1, 0, most(edge)}, bounds{2, 1, most(edge)}, bounds{3, 2, most(edge)})
	back := put(4, bounds{0, 1, less(-edge)}, bounds{1, 2, most(-edge)}, bounds{2, 3, most(-edge)})
	for i, c := range []struct {
		a, b              api.Dbm
		lies, holds, away bool // a in b, b in a, and whether they are apart
	}{
		// One and itself, and as far.
		{of(2, 1, -3, 9, 1), of(2, 1, -3, 9, 1), true, true, false},
		{free(4), free(4), true, true, false},
		{of(1, 1), of(1, none), true, true, false},
		{of(1, 1), of(1, 2), true, true, false},
		{free(3), full(3, none), true, true, false},
		// By strictness alone.
		{of(2, 1, -4, 9, 1), of(2, 1, -3, 9, 1), true, false, false},
		{of(2, 1, -3, 8, 1), of(2, 1, -3, 9, 1), true, false, false},
		{of(2, 1, -4, 9, 1), of(2, 1, -3, 8, 1), false, false, false},
		{with(box, 2, 1, less(5)), box, true, false, false},
		{with(box, 1, 2, less(3)), box, true, false, false},
		// None in the one.
		{of(2, 1, -3, 9, 1), of(2, 1, -3, none, 1), true, false, false},
		{of(2, 1, none, 9, 1), of(2, 1, -3, none, 1), false, false, false},
		{of(2, 1, most(edge), none, 1), free(2), true, false, false},
		{of(2, 1, none, most(edge), 1), free(2), true, false, false},
		{box, free(3), true, false, false},
		// In part, and not at all.
		{of(2, 1, -3, 9, 1), of(2, 1, -5, 11, 1), false, false, false},
		{of(2, 1, -3, 9, 1), of(2, 1, -5, 7, 1), false, true, false},
		{of(2, 1, -3, 9, 1), of(2, 1, -11, 13, 1), false, false, true},
		{box, put(3, bounds{2, 1, most(-4)}), false, false, true},
		{box, put(3, bounds{2, 1, most(-3)}), false, false, false},
		{box, put(3, bounds{2, 1, less(-3)}), false, false, true},
		// In one time alone, with both ends at most; and with one of them strict.
		{of(2, 1, none, 7, 1), of(2, 1, -5, none, 1), false, false, false},
		{of(2, 1, none, 6, 1), of(2, 1, -5, none, 1), false, false, true},
		{of(2, 1, none, 7, 1), of(2, 1, -6, none, 1), false, false, true},
		{of(2, 1, none, 6, 1), of(2, 1, -6, none, 1), false, false, true},
		{of(2, 1, none, 1, 1), of(2, 1, 1, 1, 1), false, true, false},
		{put(3, bounds{1, 2, most(-1)}), put(3, bounds{2, 1, most(1)}), false, false, false},
		{put(3, bounds{1, 2, most(-1)}), put(3, bounds{2, 1, less(1)}), false, false, true},
		{put(3, bounds{1, 2, less(-1)}), put(3, bounds{2, 1, most(1)}), false, false, true},
		// Only what follows tells it: the first one is not closed.
		{put(3, bounds{2, 1, most(1)}, bounds{1, 0, most(2)}), put(3, bounds{2, 0, most(3)}), true, false, false},
		{put(3, bounds{2, 1, less(1)}, bounds{1, 0, most(2)}), put(3, bounds{2, 0, less(3)}), true, false, false},
		{put(3, bounds{2, 1, most(1)}, bounds{1, 0, most(2)}), put(3, bounds{2, 0, less(3)}), false, false, false},
		{put(3, bounds{2, 1, most(1)}, bounds{1, 0, most(2)}), put(3, bounds{0, 2, less(-3)}), false, false, true},
		{put(3, bounds{2, 1, most(1)}, bounds{1, 0, most(2)}), put(3, bounds{0, 2, most(-3)}), false, false, false},
		{up, put(4, bounds{3, 0, most(3)}), true, false, false},
		{up, put(4, bounds{3, 0, less(3)}), false, false, false},
		// A second one that is not closed: what does not follow from it says nothing.
		{put(3, bounds{2, 1, most(1)}, bounds{1, 0, most(0)}), put(3, bounds{2, 1, most(1)}, bounds{1, 0, most(0)}, bounds{2, 0, most(edge)}), true, true, false},
		// A clock less itself.
		{of(1, 1), of(1, most(edge)), true, true, false},
		{of(2, 1, -3, 9, 1), of(2, 2, -3, 9, none), true, true, false},
		{of(2, most(edge), -3, 9, less(edge)), of(2, 1, -3, 9, 1), true, true, false},
		{of(2, 1, -3, 9, 1), of(2, 1, -3, 9, 0), false, true, true},
		{of(2, 1, -3, 9, 1), of(2, -1, none, none, 1), false, true, true},
		{free(4), with(free(4), 3, 3, less(-edge)), false, true, true},
		// Just at the edges.
		{of(2, 1, none, less(edge), 1), of(2, 1, none, most(edge), 1), true, false, false},
		{of(2, 1, none, most(edge-1), 1), of(2, 1, none, less(edge), 1), true, false, false},
		{of(2, 1, most(-edge), none, 1), of(2, 1, most(1-edge), none, 1), true, false, false},
		{of(2, 1, less(-edge), none, 1), of(2, 1, most(-edge), none, 1), true, false, false},
		{of(2, 1, most(-edge), most(edge), 1), of(2, 1, most(-edge), none, 1), true, false, false},
		{of(2, 1, most(-edge), none, 1), of(2, 1, none, most(edge), 1), false, false, false},
		{of(2, 1, less(-edge), none, 1), of(2, 1, none, most(edge), 1), false, false, true},
		{of(2, 1, most(-edge), none, 1), of(2, 1, none, less(edge), 1), false, false, true},
		{of(2, 1, none, most(-edge), 1), of(2, 1, most(edge), none, 1), false, false, false},
		{of(2, 1, none, less(-edge), 1), of(2, 1, most(edge), none, 1), false, false, true},
		// What follows is beyond MaxConst.
		{far, put(4, bounds{3, 0, most(edge)}), false, false, false},
		{far, free(4), true, false, false},
		{far, far, true, true, false},
		{far, put(4, bounds{1, 0, most(edge)}, bounds{2, 1, most(edge)}, bounds{3, 2, less(edge)}), false, true, false},
		{far, back, false, false, true},
		{back, put(4, bounds{0, 3, less(-edge)}), true, false, false},
		{back, put(4, bounds{0, 2, most(-edge)}), true, false, false},
		{back, put(4, bounds{3, 0, most(edge)}), false, false, true},
		{back, put(4, bounds{1, 0, most(edge)}), false, false, true},
		{back, put(4, bounds{2, 1, most(edge)}), false, false, false},
		{put(4, bounds{0, 1, most(-edge)}, bounds{1, 2, most(-edge)}, bounds{2, 3, most(-edge)}), far, false, false, false},
	} {
		is, e := incl.In(c.a, c.b)
		told(t, "In", c.a, c.b, is, e, c.lies, api.OK)
		is, e = incl.In(c.b, c.a)
		told(t, "In", c.b, c.a, is, e, c.holds, api.OK)
		is, e = incl.Apart(c.a, c.b)
		told(t, "Apart", c.a, c.b, is, e, c.away, api.OK)
		is, e = incl.Apart(c.b, c.a)
		told(t, "Apart", c.b, c.a, is, e, c.away, api.OK)
		if t.Failed() {
			t.Fatal("row", i)
		}
	}
}

func TestErrors(t *testing.T) { // P6.1, P6.2, P1
	zero := map[string]asks{"In": incl.In, "Apart": incl.Apart}
	for name, ask := range zero {
		for _, d := range sample.Bad() {
			// Whatever stands beside it: of as many clocks or not, empty, and one that may not be, too.
			for _, other := range []api.Dbm{d, free(1), free(2), free(3), free(4), of(1, 0), full(2, 0), {}, of(2, 1), full(4, none-1)} {
				is, e := ask(d, other)
				told(t, name, d, other, is, e, false, api.ErrBad)
				is, e = ask(other, d)
				told(t, name, other, d, is, e, false, api.ErrBad)
			}
		}
		for clocks := 1; clocks <= 4; clocks++ {
			for more := 1; more <= 4; more++ {
				if clocks == more {
					continue
				}
				for _, a := range []api.Dbm{free(clocks), full(clocks, none), full(clocks, 0), full(clocks, most(-edge))} {
					for _, b := range []api.Dbm{free(more), full(more, none), full(more, 0), full(more, less(edge))} {
						is, e := ask(a, b)
						told(t, name, a, b, is, e, false, api.ErrDim)
					}
				}
			}
		}
	}
	for _, d := range sample.Bad() {
		picked(t, d, nil, api.ErrBad)
	}
	for _, d := range sample.Empty() {
		picked(t, d, nil, api.ErrNone)
	}
	// Both wrong: the sum of the numbers says that it is empty, and one of them may not be.
	picked(t, of(2, -1, none, none, most(edge+1)), nil, api.ErrBad)
	picked(t, of(2, 1, less(-edge-1), most(-edge), 1), nil, api.ErrBad)
}

func TestEmpty(t *testing.T) { // P6.1, P6.4
	for _, d := range sample.Empty() {
		for _, other := range append(sample.Many(), free(1), free(2), free(3), free(4)) {
			if other.Clocks != d.Clocks {
				continue
			}
			is, e := incl.In(d, other)
			told(t, "In", d, other, is, e, true, api.OK)
			is, e = incl.Apart(d, other)
			told(t, "Apart", d, other, is, e, true, api.OK)
			is, e = incl.Apart(other, d)
			told(t, "Apart", other, d, is, e, true, api.OK)
			// In an empty one lies what is empty alone.
			_, gone := dbm.Close(other)
			is, e = incl.In(other, d)
			told(t, "In", other, d, is, e, gone == api.ErrNone, api.OK)
		}
	}
}

func TestPick(t *testing.T) { // P6.2
	for _, c := range []struct {
		d    api.Dbm
		want []api.Rat
	}{
		{of(1, 1), nil},
		{of(1, none), nil},
		{of(1, less(edge)), nil},
		// Neither end is strict, one, the other, both.
		{of(2, 1, most(-2), most(4), 1), at(2)},
		{of(2, 1, less(-2), most(4), 1), at(4)},
		{of(2, 1, most(-2), less(4), 1), at(2)},
		{of(2, 1, less(-2), less(4), 1), at(3)},
		{of(2, 1, less(-2), less(3), 1), []api.Rat{over(5, 2)}},
		{of(2, 1, less(2), less(-1), 1), []api.Rat{over(-3, 2)}},
		{of(2, 1, less(1), less(1), 1), at(0)},
		{of(2, 1, most(-3), most(3), 1), at(3)},
		// One end, or none.
		{of(2, 1, most(-2), none, 1), at(2)},
		{of(2, 1, less(-2), none, 1), at(3)},
		{of(2, 1, none, most(4), 1), at(4)},
		{of(2, 1, none, less(4), 1), at(3)},
		{of(2, 1, most(2), none, 1), at(-2)},
		{of(2, 1, less(0), none, 1), at(1)},
		{of(2, 1, none, less(0), 1), at(-1)},
		{full(2, none), at(0)},
		{free(4), at(0, 0, 0)},
		{full(4, none), at(0, 0, 0)},
		// Ends at the edges.
		{of(2, 1, most(edge), most(edge), 1), at(-edge)},
		{of(2, 1, less(edge), most(edge), 1), at(edge)},
		{of(2, 1, most(edge), less(edge), 1), at(-edge)},
		{of(2, 1, less(edge), less(edge), 1), at(0)},
		{of(2, 1, most(-edge), none, 1), at(edge)},
		{of(2, 1, less(-edge), none, 1), at(edge + 1)},
		{of(2, 1, none, most(-edge), 1), at(-edge)},
		{of(2, 1, none, less(-edge), 1), at(-edge - 1)},
		{of(2, 1, none, less(edge), 1), at(edge - 1)},
		{of(2, 1, less(edge), none, 1), at(1 - edge)},
		{of(2, 1, less(1-edge), less(edge), 1), []api.Rat{over(2*edge-1, 2)}},
		{of(2, 1, less(edge), less(1-edge), 1), []api.Rat{over(1-2*edge, 2)}},
		// An end that comes from the time of a clock ahead.
		{put(3, bounds{1, 0, less(3)}, bounds{0, 1, less(-2)}, bounds{1, 2, most(-1)}), []api.Rat{over(5, 2), over(7, 2)}},
		{put(3, bounds{1, 0, less(3)}, bounds{0, 1, less(-2)}, bounds{1, 2, less(-1)}), []api.Rat{over(5, 2), over(9, 2)}},
		{put(3, bounds{1, 0, less(3)}, bounds{0, 1, less(-2)}, bounds{2, 1, most(-1)}), []api.Rat{over(5, 2), over(3, 2)}},
		{put(3, bounds{1, 0, less(3)}, bounds{0, 1, less(-2)}, bounds{2, 1, less(-1)}), []api.Rat{over(5, 2), over(1, 2)}},
		{put(3, bounds{1, 0, less(3)}, bounds{0, 1, less(-2)}, bounds{1, 2, less(0)}, bounds{2, 1, less(1)}), []api.Rat{over(5, 2), over(3, 1)}},
		{put(3, bounds{2, 1, most(5)}, bounds{1, 2, most(-5)}), at(0, 5)},
		{put(3, bounds{2, 1, less(5)}, bounds{1, 2, less(-4)}), []api.Rat{over(0, 1), over(9, 2)}},
		// The nearer one of two, from either clock.
		{put(3, bounds{0, 1, most(-2)}, bounds{1, 2, most(-1)}, bounds{0, 2, most(-9)}), at(2, 9)},
		{put(3, bounds{1, 0, most(4)}, bounds{1, 2, most(-1)}, bounds{0, 2, most(-3)}), at(4, 5)},
		{put(3, bounds{1, 0, most(4)}, bounds{2, 1, most(-1)}, bounds{2, 0, most(1)}), at(4, 1)},
		{put(3, bounds{0, 1, most(-4)}, bounds{2, 1, most(-1)}, bounds{2, 0, most(9)}), at(4, 3)},
		{put(3, bounds{1, 0, most(4)}, bounds{1, 2, most(-1)}, bounds{0, 2, less(-3)}), at(4, 5)},
		{put(3, bounds{1, 0, most(4)}, bounds{1, 2, less(-1)}, bounds{0, 2, most(-3)}), at(4, 6)},
		// Of one time twice: strict, if one of the two is, whichever comes first.
		{put(3, bounds{1, 0, most(2)}, bounds{0, 2, most(-2)}, bounds{1, 2, less(0)}), at(2, 3)},
		{put(3, bounds{1, 0, most(2)}, bounds{0, 2, less(-2)}, bounds{1, 2, most(0)}), at(2, 3)},
		{put(3, bounds{1, 0, most(2)}, bounds{0, 2, most(-2)}, bounds{1, 2, most(0)}), at(2, 2)},
		{put(3, bounds{1, 0, most(2)}, bounds{0, 2, less(-2)}, bounds{1, 2, less(0)}), at(2, 3)},
		{put(3, bounds{0, 1, most(-2)}, bounds{2, 0, most(2)}, bounds{2, 1, less(0)}), at(2, 1)},
		{put(3, bounds{0, 1, most(-2)}, bounds{2, 0, less(2)}, bounds{2, 1, most(0)}), at(2, 1)},
		{put(3, bounds{0, 1, most(-2)}, bounds{2, 0, most(2)}, bounds{2, 1, most(0)}), at(2, 2)},
		// What follows alone makes an end.
		{put(3, bounds{2, 1, most(1)}, bounds{1, 0, most(2)}, bounds{0, 2, most(-3)}), at(2, 3)},
		{put(3, bounds{1, 2, most(1)}, bounds{2, 0, less(2)}), at(2, 1)},
		{put(4, bounds{1, 2, most(-1)}, bounds{2, 3, most(-1)}, bounds{3, 0, most(9)}), at(7, 8, 9)},
		{put(4, bounds{1, 2, less(-1)}, bounds{2, 3, most(-1)}, bounds{3, 0, most(9)}), at(6, 8, 9)},
		// The middle of two, over and over.
		{put(4, bounds{0, 1, less(0)}, bounds{1, 0, less(1)}, bounds{1, 2, less(0)}, bounds{2, 0, less(1)}, bounds{2, 3, less(0)}, bounds{3, 0, less(1)}), []api.Rat{over(1, 2), over(3, 4), over(7, 8)}},
		{put(4, bounds{0, 1, less(0)}, bounds{1, 0, less(1)}, bounds{2, 1, less(0)}, bounds{0, 2, less(0)}, bounds{1, 3, less(0)}, bounds{3, 0, less(1)}), []api.Rat{over(1, 2), over(1, 4), over(3, 4)}},
		{put(4, bounds{0, 1, less(0)}, bounds{1, 0, less(1)}, bounds{2, 1, less(0)}, bounds{0, 2, less(0)}, bounds{3, 1, less(0)}, bounds{2, 3, less(0)}), []api.Rat{over(1, 2), over(1, 4), over(3, 8)}},
		// Sums of edges.
		{put(4, bounds{0, 1, most(-edge)}, bounds{1, 2, most(-edge)}, bounds{2, 3, most(-edge)}), at(edge, 2*edge, 3*edge)},
		{put(4, bounds{0, 1, less(-edge)}, bounds{1, 2, less(-edge)}, bounds{2, 3, less(-edge)}), at(edge+1, 2*edge+2, 3*edge+3)},
		{put(4, bounds{1, 0, most(-edge)}, bounds{2, 1, most(-edge)}, bounds{3, 2, most(-edge)}), at(-edge, -2*edge, -3*edge)},
		{put(4, bounds{1, 0, less(-edge)}, bounds{2, 1, less(-edge)}, bounds{3, 2, less(-edge)}), at(-edge-1, -2*edge-2, -3*edge-3)},
		{put(4, bounds{0, 3, less(-edge)}, bounds{3, 2, less(-edge)}, bounds{2, 1, less(-edge)}), []api.Rat{over(3*edge+1, 1), over(4*edge+1, 2), over(4*edge+1, 4)}},
		{put(4, bounds{3, 0, most(edge)}, bounds{2, 3, most(edge)}, bounds{1, 2, most(edge)}), at(3*edge, 2*edge, edge)},
		{put(4, bounds{3, 0, less(-edge)}, bounds{2, 3, most(-edge)}, bounds{1, 2, most(-edge)}), at(-3*edge-1, -2*edge-1, -edge-1)},
		{put(3, bounds{1, 0, most(edge)}, bounds{0, 1, most(-edge)}, bounds{1, 2, less(-edge)}, bounds{0, 2, most(edge)}), at(edge, 2*edge+1)},
		// Not closed, and a clock less itself says nothing.
		{of(2, 12, most(-2), most(4), none), at(2)},
		{of(2, most(edge), less(-2), less(4), less(edge)), at(3)},
	} {
		picked(t, c.d, c.want, api.OK)
	}
}

// number is a fraction that has no limits.
func number(a api.Rat) *big.Rat { return big.NewRat(int64(a.Num), int64(a.Den)) }

// slow are the times that are picked, by the chapter's words, of fractions without limits.
func slow(t *testing.T, d api.Dbm) []api.Rat {
	t.Helper()
	closed, e := dbm.Close(d)
	if e != api.OK {
		t.Fatalf("Close(%v): %d", d, e)
	}
	times := []*big.Rat{new(big.Rat)}
	for i := 1; i < d.Clocks; i++ {
		var low, high *big.Rat
		lowStrict, highStrict := false, false
		for j, at := range times {
			if b := closed.Bounds[j*d.Clocks+i]; b != none {
				x := new(big.Rat).Sub(at, big.NewRat(int64(b>>1), 1))
				if low == nil || x.Cmp(low) > 0 {
					low, lowStrict = x, false
				}
				lowStrict = lowStrict || x.Cmp(low) == 0 && b%2 == 0
			}
			if b := closed.Bounds[i*d.Clocks+j]; b != none {
				x := new(big.Rat).Add(at, big.NewRat(int64(b>>1), 1))
				if high == nil || x.Cmp(high) < 0 {
					high, highStrict = x, false
				}
				highStrict = highStrict || x.Cmp(high) == 0 && b%2 == 0
			}
		}
		one, at := big.NewRat(1, 1), new(big.Rat)
		switch {
		case low != nil && !lowStrict:
			at = low
		case high != nil && !highStrict:
			at = high
		case low != nil && high != nil:
			at.Add(low, high).Quo(at, big.NewRat(2, 1))
		case low != nil:
			at.Add(low, one)
		case high != nil:
			at.Sub(high, one)
		}
		times = append(times, at)
	}
	var l []api.Rat
	for _, x := range times[1:] {
		if !x.Num().IsInt64() || !x.Denom().IsInt64() {
			t.Fatalf("%v of %v is no fraction that may be", x, d)
		}
		l = append(l, over(int(x.Num().Int64()), int(x.Denom().Int64())))
	}
	return l
}

func TestPickByTheWords(t *testing.T) { // P6.2, P6.4, P1
	n, gone := 0, 0
	for _, d := range append(sample.Many(), sample.Wide()...) {
		if _, e := dbm.Close(d); e != api.OK {
			picked(t, d, nil, e)
			gone++
			continue
		}
		picked(t, d, slow(t, d), api.OK)
		n++
		// They may be, and keep it, and what is closed has the same ones.
		times, _ := incl.Pick(d)
		if !keeps(t, d, times) {
			t.Errorf("Pick(%v) = %v does not keep it", d, times)
		}
		closed, _ := dbm.Close(d)
		if dbm.Check(closed) == api.OK {
			picked(t, closed, times, api.OK)
		}
	}
	if n < 3000 || gone < 300 {
		t.Errorf("%d with times and %d without are too few to tell", n, gone)
	}
}

func TestTwoByTimes(t *testing.T) { // P6.1
	var lies, away [2]int
	count := func(to *[2]int, is bool) {
		if is {
			to[1]++
		} else {
			to[0]++
		}
	}
	for clocks := 1; clocks <= 3; clocks++ {
		// None more often than not, since most of those that say much are empty.
		l := sample.Some(40, clocks, append(slices.Repeat([]api.Bound{none}, 12), sample.Few()...)...)
		for k, a := range l {
			for _, b := range slices.Concat(l[k:min(k+5, len(l))], []api.Dbm{free(clocks), with(a, clocks-1, 0, none)}) {
				in, ni, apart := true, true, true
				sample.Grid(clocks, 7, func(times []api.Rat) {
					p, q := keeps(t, a, times), keeps(t, b, times)
					in, ni, apart = in && (!p || q), ni && (!q || p), apart && !(p && q)
				})
				is, e := incl.In(a, b)
				told(t, "In", a, b, is, e, in, api.OK)
				is, e = incl.In(b, a)
				told(t, "In", b, a, is, e, ni, api.OK)
				is, e = incl.Apart(a, b)
				told(t, "Apart", a, b, is, e, apart, api.OK)
				count(&lies, in)
				count(&away, apart)
			}
		}
	}
	for _, n := range []int{lies[0], lies[1], away[0], away[1]} {
		if n < 80 {
			t.Errorf("%v that lie in one another, and %v that are apart, are too few to tell", lies, away)
		}
	}
}

// within tells whether all times that keep the one keep the other one, since none keep the one and break a bound of that.
func within(t *testing.T, a, b api.Dbm) bool {
	t.Helper()
	for place, x := range b.Bounds {
		not, e := bound.Not(x)
		if e == api.ErrNone {
			continue
		}
		if _, e := tight.Set(a, place%a.Clocks, place/a.Clocks, not); e == api.OK {
			return false
		} else if e != api.ErrNone {
			t.Fatalf("Set(%v, %d, %d): %d", a, place, not, e)
		}
	}
	return true
}

func TestTwoFitOneAnother(t *testing.T) { // P6.1, P6.4
	var lies, away, both int
	all := sample.Many()
	for k, a := range all {
		for _, b := range append([]api.Dbm{a, free(a.Clocks)}, all[k:min(k+12, len(all))]...) {
			if a.Clocks != b.Clocks {
				continue
			}
			in, e := incl.In(a, b)
			told(t, "In", a, b, in, e, within(t, a, b), api.OK)
			ni, e := incl.In(b, a)
			told(t, "In", b, a, ni, e, within(t, b, a), api.OK)
			// Apart, if nothing is left of both; what is left lies in both, if it may be handed in again.
			common, gone := tight.Meet(a, b)
			apart, e := incl.Apart(a, b)
			told(t, "Apart", a, b, apart, e, gone == api.ErrNone, api.OK)
			turned, e := incl.Apart(b, a)
			told(t, "Apart", b, a, turned, e, apart, api.OK)
			if gone == api.OK && dbm.Check(common) == api.OK {
				for _, d := range []api.Dbm{a, b} {
					is, e := incl.In(common, d)
					told(t, "In", common, d, is, e, true, api.OK)
				}
			}
			// What lies in the other one and is apart from it is empty; times of the one tell, if they may.
			closed, none := dbm.Close(a)
			if in && apart && none != api.ErrNone || none == api.ErrNone && !(in && apart) {
				t.Errorf("%v and %v: in %t, apart %t, closed %d", a, b, in, apart, none)
			}
			if none == api.OK {
				times, _ := incl.Pick(a)
				if is := keeps(t, b, times); in && !is || apart && is {
					t.Errorf("%v of %v and %v: in %t, apart %t, kept %t", times, a, b, in, apart, is)
				}
			}
			// Two that lie in one another are kept by the same: their closed ones are one.
			other, fewer := dbm.Close(b)
			if (in && ni) != (none == fewer && dbm.Same(closed, other)) {
				t.Errorf("%v and %v: %t and %t, closed %v and %v", a, b, in, ni, closed, other)
			}
			switch {
			case in && ni:
				both++
			case in || ni:
				lies++
			}
			if apart {
				away++
			}
		}
	}
	if lies < 1000 || away < 1000 || both < 500 {
		t.Errorf("%d that lie in one another, %d that do both ways, %d that are apart are too few to tell", lies, both, away)
	}
}

func TestOnlyReadAndNew(t *testing.T) { // P6.3
	for _, a := range sample.Many() {
		held := dbm.Twin(a)
		first, e := incl.Pick(a)
		want := slices.Clone(first)
		for i := range first {
			first[i] = over(77, 1)
		}
		// What is answered can be gone on with, and touches nothing.
		_ = append(first, over(78, 1))
		picked(t, a, want, e)
		for _, b := range []api.Dbm{a, free(a.Clocks), full(a.Clocks, none), full(a.Clocks, 0)} {
			other := dbm.Twin(b)
			incl.In(a, b)
			incl.In(b, a)
			incl.Apart(a, b)
			incl.Apart(b, a)
			if !reflect.DeepEqual(a, held) || !reflect.DeepEqual(b, other) {
				t.Fatalf("%v and %v are now %v and %v", held, other, a, b)
			}
		}
	}
	// What lies behind the bounds is left, and says nothing.
	long := []api.Bound{1, -3, 9, 1, 0, 0}
	d := api.Dbm{Clocks: 2, Bounds: long[:4]}
	picked(t, d, at(2), api.OK)
	is, e := incl.In(d, of(2, 1, -1, none, 1))
	told(t, "In", d, d, is, e, true, api.OK)
	is, e = incl.Apart(d, d)
	told(t, "Apart", d, d, is, e, false, api.OK)
	if !slices.Equal(long, []api.Bound{1, -3, 9, 1, 0, 0}) {
		t.Error(long)
	}
}

func TestAnswersHangOnArgumentsAlone(t *testing.T) { // P2
	for clocks := 1; clocks <= 4; clocks++ {
		l := sample.Some(30, clocks, sample.Few()...)
		for k, a := range l {
			b := l[(k+1)%len(l)]
			in, e := incl.In(a, b)
			apart, f := incl.Apart(a, b)
			times, g := incl.Pick(a)
			incl.Pick(full(4, none))
			incl.In(of(1, 0), of(1, 1))
			incl.Apart(of(1), free(2))
			is, again := incl.In(dbm.Twin(a), dbm.Twin(b))
			told(t, "In", a, b, is, again, in, e)
			is, again = incl.Apart(dbm.Twin(a), dbm.Twin(b))
			told(t, "Apart", a, b, is, again, apart, f)
			picked(t, dbm.Twin(a), times, g)
		}
	}
}
