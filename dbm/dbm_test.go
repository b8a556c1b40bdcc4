package dbm_test

import (
	"math"
	"math/rand"
	"reflect"
	"slices"
	"testing"

	"rallentando/api"
	"rallentando/dbm"
	"rallentando/sample"
)

const (
	edge  = 1 << 58
	none  = api.None
	least = math.MinInt
	great = math.MaxInt
)

// What matrices are written with.
var (
	most, less           = sample.Most, sample.Less
	of, full, with, free = sample.Of, sample.Full, sample.With, sample.Free
)

// The calls, with the chapter's signatures.
var (
	_ func(api.Dbm) api.Errno                    = dbm.Check
	_ func(int) (api.Dbm, api.Errno)             = dbm.Top
	_ func(api.Dbm) (api.Dbm, api.Errno)         = dbm.Close
	_ func(api.Dbm, []api.Rat) (bool, api.Errno) = dbm.Keeps
	_ func(api.Dbm, api.Dbm) bool                = dbm.Same
	_ func(api.Dbm) api.Dbm                      = dbm.Twin
)

func by(n, d int) api.Rat { return api.Rat{Num: n, Den: d} }

// wholes are times that are whole numbers.
func wholes(l ...int) []api.Rat {
	var times []api.Rat
	for _, n := range l {
		times = append(times, by(n, 1))
	}
	return times
}

// good are matrices that may be, at the edges too.
func good() []api.Dbm {
	l := []api.Dbm{of(1, 1), of(1, none), of(1, 0), of(2, 1, -3, 9, 1), of(2, 1, -5, 3, 1),
		of(3, 1, 0, none, none, 1, 7, -8, 3, 1)}
	for clocks := 1; clocks <= 4; clocks++ {
		for _, b := range []api.Bound{none, 0, 1, most(edge), less(edge), most(-edge), less(-edge), most(edge - 1), less(1 - edge)} {
			l = append(l, full(clocks, b), with(free(clocks), 0, clocks-1, b), with(free(clocks), clocks-1, 0, b), with(free(clocks), clocks-1, clocks-1, b))
		}
	}
	return l
}

func TestCheck(t *testing.T) { // P4.1
	for _, d := range good() {
		if e := dbm.Check(d); e != api.OK {
			t.Errorf("Check(%v) = %d, want OK", d, e)
		}
	}
	for _, d := range sample.Bad() {
		if e := dbm.Check(d); e != api.ErrBad {
			t.Errorf("Check(%v) = %d, want ErrBad", d, e)
		}
	}
}

// Each place of each size is looked at, and by its number: strict or not.
func TestCheckEachPlace(t *testing.T) { // P4.1
	for clocks := 1; clocks <= 4; clocks++ {
		for i := range clocks {
			for j := range clocks {
				for b, want := range map[api.Bound]api.Errno{none: api.OK,
					most(edge): api.OK, less(edge): api.OK, most(-edge): api.OK, less(-edge): api.OK,
					most(edge + 1): api.ErrBad, less(edge + 1): api.ErrBad, most(-edge - 1): api.ErrBad, less(-edge - 1): api.ErrBad} {
					if e := dbm.Check(with(free(clocks), i, j, b)); e != want {
						t.Errorf("Check of %d clocks with %d at %d, %d: %d, want %d", clocks, b, i, j, e, want)
					}
				}
			}
		}
	}
}

func TestTop(t *testing.T) { // P4.1
	for clocks, want := range map[int]api.Dbm{
		1: of(1, 1),
		2: of(2, 1, none, none, 1),
		3: of(3, 1, none, none, none, 1, none, none, none, 1),
		4: of(4, 1, none, none, none, none, 1, none, none, none, none, 1, none, none, none, none, 1),
	} {
		if d, e := dbm.Top(clocks); !reflect.DeepEqual(d, want) || e != api.OK {
			t.Errorf("Top(%d) = %v, %d, want %v, OK", clocks, d, e, want)
		}
	}
	for _, clocks := range []int{0, -1, -4, 5, 6, 1 << 32, great, least, least + 1} {
		if d, e := dbm.Top(clocks); !reflect.DeepEqual(d, api.Dbm{}) || e != api.ErrArg {
			t.Errorf("Top(%d) = %v, %d, want zero, ErrArg", clocks, d, e)
		}
	}
}

func TestSame(t *testing.T) { // P4.1
	l := append(good(), sample.Bad()...)
	for i, a := range l {
		for k, b := range l {
			want := a.Clocks == b.Clocks && len(a.Bounds) == len(b.Bounds)
			for p := 0; want && p < len(a.Bounds); p++ {
				want = a.Bounds[p] == b.Bounds[p]
			}
			if i == k && !want || dbm.Same(a, b) != want {
				t.Errorf("Same(%v, %v) = %t, want %t", a, b, !want, want)
			}
		}
	}
	for i, c := range []struct {
		a, b api.Dbm
		want bool
	}{
		{api.Dbm{}, api.Dbm{}, true},
		{api.Dbm{Clocks: 7}, api.Dbm{Clocks: 7}, true},
		{api.Dbm{Clocks: 7}, api.Dbm{Clocks: 8}, false},
		// A list that is none, and one that is empty, have the same bounds.
		{api.Dbm{Clocks: 2}, api.Dbm{Clocks: 2, Bounds: []api.Bound{}}, true},
		{api.Dbm{Clocks: 2, Bounds: []api.Bound{}}, api.Dbm{Clocks: 2}, true},
		{api.Dbm{}, of(0, 1), false},
		{of(0, 1), api.Dbm{}, false},
		{of(1, 1), of(1, 1), true},
		{of(1, 1), of(1, 0), false},
		{of(1, 1), of(2, 1), false},
		{of(2, 1, -3, 9, 1), of(2, 1, -3, 9, 1), true},
		{of(2, 1, -3, 9, 1), of(2, 1, -3, 9, 0), false},
		{of(2, 1, -3, 9, 1), of(2, 1, 9, -3, 1), false},
		{of(2, 1, -3, 9, 1), of(2, 1, -3, 9), false},
		{of(2, 1, -3, 9), of(2, 1, -3, 9, 1), false},
		// Ones that may not be are compared as they are, even if no times keep either.
		{of(-1, 5, least), of(-1, 5, least), true},
		{of(-1, 5, least), of(-1, 5, least+1), false},
		{of(1, 0), of(1, -2), false},
	} {
		if is := dbm.Same(c.a, c.b); is != c.want {
			t.Errorf("%d: Same(%v, %v) = %t", i, c.a, c.b, is)
		}
	}
	// How much a list could hold says nothing.
	if roomy := append(make([]api.Bound, 0, 99), 1); !dbm.Same(of(1, 1), api.Dbm{Clocks: 1, Bounds: roomy}) {
		t.Error("Same hangs on a capacity")
	}
}

func TestTwin(t *testing.T) { // P4.1, P4.4
	for _, d := range append(good(), sample.Bad()...) {
		held := of(d.Clocks, slices.Clone(d.Bounds)...)
		twin := dbm.Twin(d)
		if !reflect.DeepEqual(twin, d) || !dbm.Same(twin, d) {
			t.Fatalf("Twin(%v) = %v", d, twin)
		}
		for i := range twin.Bounds {
			twin.Bounds[i] ^= 5
		}
		if !dbm.Same(d, held) {
			t.Fatalf("Twin(%v) shares memory", held)
		}
	}
	// A list that is none stays none, an empty one stays empty.
	if d := dbm.Twin(api.Dbm{Clocks: 3}); d.Clocks != 3 || d.Bounds != nil {
		t.Errorf("Twin without a list = %v", d)
	}
	if d := dbm.Twin(api.Dbm{Clocks: 3, Bounds: []api.Bound{}}); d.Clocks != 3 || d.Bounds == nil || len(d.Bounds) != 0 {
		t.Errorf("Twin of an empty list = %v", d)
	}
	// What lies behind the list's end is not the matrix's.
	long := []api.Bound{1, 2, 3}
	for n := range 2 {
		d := dbm.Twin(api.Dbm{Clocks: 1, Bounds: long[:n]})
		if _ = append(d.Bounds, 77); !slices.Equal(long, []api.Bound{1, 2, 3}) {
			t.Errorf("Twin shares what lies behind its list of %d", n)
		}
	}
}

func TestClose(t *testing.T) { // P4.2
	for i, c := range []struct{ d, want api.Dbm }{
		// Closed already.
		{of(1, 1), of(1, 1)},
		{of(2, 1, none, none, 1), of(2, 1, none, none, 1)},
		{of(2, 1, -3, 9, 1), of(2, 1, -3, 9, 1)},
		{of(2, 1, -3, 6, 1), of(2, 1, most(-2), less(3), 1)},
		{free(4), free(4)},
		// A clock's bound of itself comes to at most 0.
		{of(1, none), of(1, 1)},
		{of(1, 2), of(1, 1)},
		{of(1, most(edge)), of(1, 1)},
		{of(2, none, -3, 9, 12), of(2, 1, -3, 9, 1)},
		{full(2, none), free(2)},
		{full(4, none), free(4)},
		{full(4, most(edge)), of(4, 1, most(edge), most(edge), most(edge), most(edge), 1, most(edge), most(edge), most(edge), most(edge), 1, most(edge), most(edge), most(edge), most(edge), 1)},
		// Over a third clock; strict, if one of both is.
		{of(3, 1, none, none, most(3), 1, none, none, most(4), 1), of(3, 1, none, none, most(3), 1, none, most(7), most(4), 1)},
		{of(3, 1, none, none, less(3), 1, none, none, most(4), 1), of(3, 1, none, none, less(3), 1, none, less(7), most(4), 1)},
		{of(3, 1, none, none, less(3), 1, none, none, less(4), 1), of(3, 1, none, none, less(3), 1, none, less(7), less(4), 1)},
		{of(3, 1, none, none, most(3), 1, none, less(7), most(4), 1), of(3, 1, none, none, most(3), 1, none, less(7), most(4), 1)},
		{of(3, 1, none, none, most(3), 1, none, most(6), most(4), 1), of(3, 1, none, none, most(3), 1, none, most(6), most(4), 1)},
		{of(3, 1, most(-2), none, most(5), 1, none, none, none, 1), of(3, 1, most(-2), none, most(5), 1, none, none, none, 1)},
		// Over two more, in each order of the clocks: their sum is put last.
		{with(with(with(free(4), 3, 2, most(1)), 2, 1, most(1)), 1, 0, most(1)),
			of(4, 1, none, none, none, most(1), 1, none, none, most(2), most(1), 1, none, most(3), most(2), most(1), 1)},
		{with(with(with(free(4), 0, 3, most(1)), 3, 1, less(1)), 1, 2, most(1)),
			of(4, 1, less(2), less(3), most(1), none, 1, most(1), none, none, none, 1, none, none, less(1), less(2), 1)},
		// Just kept: 0 all around, by one only.
		{of(2, 1, most(-4), most(4), 1), of(2, 1, most(-4), most(4), 1)},
		{with(with(with(free(3), 0, 1, most(5)), 1, 2, most(-7)), 2, 0, most(2)), of(3, 1, most(5), most(-2), most(-5), 1, most(-7), most(2), most(7), 1)},
	} {
		if d, e := dbm.Close(c.d); !dbm.Same(d, c.want) || e != api.OK {
			t.Errorf("%d: Close(%v) = %v, %d, want %v, OK", i, c.d, d, e, c.want)
		}
	}
}

func TestCloseBeyondMaxConst(t *testing.T) { // P4.2, P4.5
	for i, c := range []struct {
		step, twice, thrice api.Bound
	}{
		{most(edge), most(2 * edge), most(3 * edge)},
		{less(edge), less(2 * edge), less(3 * edge)},
		{most(-edge), most(-2 * edge), most(-3 * edge)},
		{less(-edge), less(-2 * edge), less(-3 * edge)},
	} {
		d := with(with(with(free(4), 3, 2, c.step), 2, 1, c.step), 1, 0, c.step)
		want := of(4, 1, none, none, none, c.step, 1, none, none, c.twice, c.step, 1, none, c.thrice, c.twice, c.step, 1)
		closed, e := dbm.Close(d)
		if !dbm.Same(closed, want) || e != api.OK {
			t.Errorf("%d: Close(%v) = %v, %d, want %v, OK", i, d, closed, e, want)
		}
		// It may not be handed in again.
		if e := dbm.Check(closed); e != api.ErrBad {
			t.Errorf("%d: Check of it = %d, want ErrBad", i, e)
		}
		if again, e := dbm.Close(closed); !reflect.DeepEqual(again, api.Dbm{}) || e != api.ErrBad {
			t.Errorf("%d: Close of it = %v, %d, want zero, ErrBad", i, again, e)
		}
	}
	// All clocks on 2^58 steps from one another both ways: as tight as it gets without being empty.
	d := free(4)
	for i := range 3 {
		d = with(with(d, i+1, i, most(edge)), i, i+1, most(-edge))
	}
	want := of(4, 1, most(-edge), most(-2*edge), most(-3*edge), most(edge), 1, most(-edge), most(-2*edge), most(2*edge), most(edge), 1, most(-edge), most(3*edge), most(2*edge), most(edge), 1)
	if closed, e := dbm.Close(d); !dbm.Same(closed, want) || e != api.OK {
		t.Errorf("Close(%v) = %v, %d, want %v, OK", d, closed, e, want)
	}
}

// empties are matrices that no times keep.
func empties() []api.Dbm {
	l := []api.Dbm{
		// By a clock's bound of itself.
		of(1, 0), of(1, -1), of(1, most(-edge)), of(1, less(-edge)), of(2, 1, none, none, 0), of(2, 0, none, none, 1), of(2, -1, -3, 9, 1),
		with(free(3), 1, 1, 0), with(free(4), 3, 3, 0), with(free(4), 3, 3, less(-edge)), with(free(4), 0, 0, -1),
		// By two bounds: apart, or both at one number that one of them leaves out.
		of(2, 1, -5, 3, 1), of(2, 1, most(-4), less(4), 1), of(2, 1, less(-4), most(4), 1), of(2, 1, less(-4), less(4), 1),
		of(2, 1, most(-edge), most(edge-1), 1), of(2, 1, most(-edge), most(-edge), 1), of(2, 1, less(-edge), most(edge), 1),
		of(2, none, -5, 3, none),
		with(with(free(4), 2, 3, most(6)), 3, 2, less(-6)), with(with(free(3), 1, 2, less(-6)), 2, 1, most(6)),
		// By a way over three clocks and back: by the sum, and by one that is strict.
		with(with(with(free(3), 0, 1, most(5)), 1, 2, most(-8)), 2, 0, most(2)),
		with(with(with(free(3), 0, 1, most(5)), 1, 2, less(-7)), 2, 0, most(2)),
		with(with(with(free(3), 0, 2, most(5)), 2, 1, less(-7)), 1, 0, most(2)),
		with(with(with(free(4), 1, 2, most(5)), 2, 3, less(-7)), 3, 1, most(2)),
		with(with(with(free(4), 3, 2, most(5)), 2, 1, most(-9)), 1, 3, less(2)),
		// By one over all four, so that only the last clock tells.
		with(with(with(with(free(4), 0, 1, most(1)), 1, 2, most(1)), 2, 3, most(1)), 3, 0, less(-3)),
		with(with(with(with(free(4), 0, 3, most(edge)), 3, 1, most(edge)), 1, 2, most(-edge)), 2, 0, less(-edge)),
		with(with(with(with(free(4), 0, 3, most(-edge)), 3, 2, less(edge)), 2, 1, most(edge)), 1, 0, most(-edge)),
	}
	// So far below 0 that sums over the clocks would leave ints, if a way back below 0 were gone on with.
	for clocks := 1; clocks <= 4; clocks++ {
		for _, b := range []api.Bound{most(-edge), less(-edge), most(-edge + 1), -1, 0} {
			l = append(l, full(clocks, b))
		}
	}
	for clocks := 2; clocks <= 4; clocks++ {
		for _, b := range []api.Bound{most(-edge), less(-edge)} {
			d := full(clocks, b)
			for i := range clocks {
				d = with(d, i, i, none)
			}
			l = append(l, d, with(d, 0, 0, 1), with(d, clocks-1, clocks-1, 1))
			if clocks > 2 {
				l = append(l, with(d, 0, clocks-1, most(edge)), with(d, clocks-1, 0, none))
			}
		}
	}
	return l
}

func TestCloseOfEmpty(t *testing.T) { // P4.2, P4.5
	for i, d := range empties() {
		if closed, e := dbm.Close(d); !reflect.DeepEqual(closed, api.Dbm{}) || e != api.ErrNone {
			t.Errorf("%d: Close(%v) = %v, %d, want zero, ErrNone", i, d, closed, e)
		}
	}
}

func TestCloseOfBad(t *testing.T) { // P4.2, P1
	for _, d := range sample.Bad() {
		if closed, e := dbm.Close(d); !reflect.DeepEqual(closed, api.Dbm{}) || e != api.ErrBad {
			t.Errorf("Close(%v) = %v, %d, want zero, ErrBad", d, closed, e)
		}
	}
	// ErrBad comes ahead of ErrNone.
	for _, d := range []api.Dbm{of(2, 0, most(edge+1), 1, 1), of(2, -1, -1, -1, most(-edge-1)), of(2, 0, 0, 0), of(1, 0, 0)} {
		if _, e := dbm.Close(d); e != api.ErrBad {
			t.Errorf("Close(%v): %d, want ErrBad", d, e)
		}
	}
}

// way is what bounds along a way come to.
type way struct {
	c      int
	strict bool
}

func (w way) on(b api.Bound) way { return way{w.c + int(b>>1), w.strict || b&1 == 0} }

func (w way) bound() api.Bound {
	if w.strict {
		return less(w.c)
	}
	return most(w.c)
}

// shortest is the least bound along all ways from one clock to another that come by no clock twice: it goes through all of them.
func shortest(d api.Dbm, i, j int, been [4]bool, so way) api.Bound {
	been[i] = true
	best := none
	if b := d.Bounds[i*d.Clocks+j]; b != none {
		best = so.on(b).bound()
	}
	for k := range d.Clocks {
		if b := d.Bounds[i*d.Clocks+k]; !been[k] && k != j && b != none {
			best = min(best, shortest(d, k, j, been, so.on(b)))
		}
	}
	return best
}

// slow is the closed one of a matrix, by all ways there are, and whether it is empty.
func slow(d api.Dbm) (api.Dbm, bool) {
	closed := free(d.Clocks)
	for i := range d.Clocks {
		for j := range d.Clocks {
			b := shortest(d, i, j, [4]bool{}, way{})
			if i == j && b < 1 {
				return api.Dbm{}, true
			}
			if i != j {
				closed = with(closed, i, j, b)
			}
		}
	}
	return closed, false
}

// some are matrices of all sizes whose bounds are drawn of a few, always the same ones.
func some(n int, from ...api.Bound) []api.Dbm {
	r := rand.New(rand.NewSource(int64(n)))
	var l []api.Dbm
	for k := range n {
		d := full(1+k%4, none)
		for i := range d.Bounds {
			d.Bounds[i] = from[r.Intn(len(from))]
		}
		// A clock's bound of itself is drawn seldom, since it mostly empties all.
		for i := range d.Clocks {
			if r.Intn(12) > 0 {
				d.Bounds[i*d.Clocks+i] = max(1, d.Bounds[i*d.Clocks+i])
			}
		}
		l = append(l, d)
	}
	return l
}

// many are matrices of small numbers, and of those at the edges.
func many() []api.Dbm {
	l := some(4001, none, 0, 1, 2, 3, -1, -2, 4, 5, -4, -5, 9, 8)
	l = append(l, some(4002, none, none, none, 0, 1, -1, 2, -3, 6, 7)...)
	l = append(l, some(4003, none, most(edge), less(edge), most(-edge), less(-edge), 1)...)
	l = append(l, some(4004, most(edge), most(edge-1), less(edge), most(-edge), less(1-edge), most(edge/2))...)
	l = append(l, some(4005, none, none, none, most(-edge), less(-edge), most(edge))...)
	return append(l, good()...)
}

func TestCloseByAllWays(t *testing.T) { // P4.2
	kept, empty := 0, 0
	for _, d := range many() {
		want, none := slow(d)
		closed, e := dbm.Close(d)
		if none {
			empty++
			if !reflect.DeepEqual(closed, api.Dbm{}) || e != api.ErrNone {
				t.Fatalf("Close(%v) = %v, %d, want zero, ErrNone", d, closed, e)
			}
			continue
		}
		kept++
		if !dbm.Same(closed, want) || e != api.OK {
			t.Fatalf("Close(%v) = %v, %d, want %v, OK", d, closed, e, want)
		}
	}
	if kept < 1000 || empty < 1000 {
		t.Errorf("%d that are kept and %d that are empty are too few to tell", kept, empty)
	}
}

// isClosed is what the chapter says of closed ones, by ints: MaxConst times 6 is one.
func isClosed(d api.Dbm) bool {
	for i := range d.Clocks {
		if d.Bounds[i*d.Clocks+i] != 1 {
			return false
		}
		for k := range d.Clocks {
			for j := range d.Clocks {
				a, b := d.Bounds[i*d.Clocks+k], d.Bounds[k*d.Clocks+j]
				if a != none && b != none && d.Bounds[i*d.Clocks+j] > (way{}).on(a).on(b).bound() {
					return false
				}
			}
		}
	}
	return true
}

func TestClosedIsClosed(t *testing.T) { // P4.5
	again := 0
	for _, d := range many() {
		closed, e := dbm.Close(d)
		if e != api.OK {
			continue
		}
		if !isClosed(closed) || closed.Clocks != d.Clocks {
			t.Fatalf("Close(%v) = %v, which is not closed", d, closed)
		}
		for i, b := range closed.Bounds {
			if b > d.Bounds[i] {
				t.Fatalf("Close(%v) = %v: greater at %d", d, closed, i)
			}
		}
		// To itself, if it may be handed in again.
		if dbm.Check(closed) == api.OK {
			again++
			if twice, e := dbm.Close(closed); !dbm.Same(twice, closed) || e != api.OK {
				t.Fatalf("Close(%v) = %v, %d", closed, twice, e)
			}
		}
	}
	if again < 1000 {
		t.Errorf("%d that are closed again are too few to tell", again)
	}
}

func TestKeeps(t *testing.T) { // P4.3
	box := of(3, 1, most(-1), less(-2), most(4), 1, less(0), most(6), most(3), 1) // x from 1 to 4, y above 2 up to 6, x below y, y at most x and 3
	for i, c := range []struct {
		d     api.Dbm
		times []api.Rat
		want  bool
	}{
		{of(2, 1, -3, 9, 1), []api.Rat{by(5, 2)}, true},
		{of(2, 1, -3, 9, 1), []api.Rat{by(2, 1)}, true},
		{of(2, 1, -3, 9, 1), []api.Rat{by(4, 1)}, true},
		{of(2, 1, -3, 9, 1), []api.Rat{by(2*1000-1, 1000)}, false},
		{of(2, 1, -3, 9, 1), []api.Rat{by(4*1000+1, 1000)}, false},
		{of(2, 1, less(-2), less(4), 1), []api.Rat{by(2, 1)}, false},
		{of(2, 1, less(-2), less(4), 1), []api.Rat{by(4, 1)}, false},
		{of(2, 1, less(-2), less(4), 1), []api.Rat{by(2<<20-1, 1<<20-1)}, true},
		{of(2, 1, less(-2), less(4), 1), []api.Rat{by(4<<20-1, 1<<20)}, true},
		{of(2, 1, most(3), most(-1), 1), []api.Rat{by(-3, 2)}, true},
		{of(2, 1, most(3), most(-1), 1), []api.Rat{by(-1, 2)}, false},
		{free(2), []api.Rat{by(1<<61, 1)}, true},
		{free(4), wholes(-1<<61, 1<<61, 0), true},
		// With no clock but that of nought only its own bound is left.
		{of(1, 1), nil, true},
		{of(1, none), []api.Rat{}, true},
		{of(1, 2), nil, true},
		{of(1, 0), nil, false},
		{of(1, most(-edge)), nil, false},
		// A clock's bound of itself is to be kept by 0.
		{with(free(2), 1, 1, 0), wholes(7), false},
		{with(free(2), 0, 0, -1), wholes(7), false},
		{with(free(4), 3, 3, 0), wholes(7, 8, 9), false},
		{full(3, none), wholes(7, 8), true},
		// Each difference, both ways.
		{box, wholes(1, 3), true}, {box, wholes(4, 6), true}, {box, []api.Rat{by(3, 1), by(7, 2)}, true},
		{box, []api.Rat{by(1, 2), by(3, 1)}, false}, {box, []api.Rat{by(9, 2), by(5, 1)}, false}, {box, wholes(1, 2), false},
		{box, []api.Rat{by(4, 1), by(13, 2)}, false}, {box, wholes(3, 3), false}, {box, []api.Rat{by(1, 1), by(9, 2)}, false},
		{box, wholes(1, 4), true}, {box, wholes(3, 1), false},
		// At the edges of numbers.
		{with(free(2), 1, 0, most(edge)), wholes(edge), true},
		{with(free(2), 1, 0, less(edge)), wholes(edge), false},
		{with(free(2), 1, 0, most(edge)), wholes(edge + 1), false},
		{with(free(2), 0, 1, most(-edge)), wholes(edge), true},
		{with(free(2), 0, 1, most(-edge)), wholes(edge - 1), false},
		{with(free(3), 1, 2, most(-edge)), wholes(-1<<61, 1<<61), true},
		{with(free(3), 2, 1, most(edge)), wholes(-1<<61, 1<<61), false},
		{of(2, 1, -5, 3, 1), wholes(2), false},
	} {
		if is, e := dbm.Keeps(c.d, c.times); is != c.want || e != api.OK {
			t.Errorf("%d: Keeps(%v, %v) = %t, %d, want %t, OK", i, c.d, c.times, is, e, c.want)
		}
	}
}

func TestKeepsAsksFirst(t *testing.T) { // P4.3, P1
	wrong := []api.Rat{{}, by(1, 0), by(2, 4), by(0, 2), by(1, -1), by(1, 1<<20+1), by(1<<61+1, 1), by(-1<<61-1, 1), by(least, 1)}
	for _, d := range sample.Bad() {
		for _, times := range [][]api.Rat{nil, wholes(1), wholes(1, 2), wholes(1, 2, 3), wrong} {
			if is, e := dbm.Keeps(d, times); is || e != api.ErrBad {
				t.Errorf("Keeps(%v, %v) = %t, %d, want false, ErrBad", d, times, is, e)
			}
		}
	}
	for clocks := 1; clocks <= 4; clocks++ {
		for n := range 8 {
			times := make([]api.Rat, n)
			for i := range times {
				times[i] = by(i, 1)
			}
			want, e := n == clocks-1, api.OK
			if !want {
				e = api.ErrDim
			}
			if is, got := dbm.Keeps(free(clocks), times); is != want || got != e {
				t.Errorf("Keeps of %d clocks, %d times = %t, %d", clocks, n, is, got)
			}
			// An empty one asks as well.
			if is, got := dbm.Keeps(full(clocks, 0), times); is || got != e {
				t.Errorf("Keeps of an empty one of %d clocks, %d times = %t, %d", clocks, n, is, got)
			}
			// One time that may not be is told ahead of how many there are, wherever it stands.
			for place := range n {
				for _, w := range wrong {
					l := slices.Clone(times)
					l[place] = w
					if is, got := dbm.Keeps(free(clocks), l); is || got != api.ErrBad {
						t.Errorf("Keeps of %d clocks, %v = %t, %d, want false, ErrBad", clocks, l, is, got)
					}
				}
			}
		}
	}
}

// Of small numbers: just the same times keep the closed one, none keep an empty one, and each bound of the closed one is the least: one below would leave out some times.
func TestSameTimesKeepTheClosedOne(t *testing.T) { // P4.2, P4.5
	kept, empty := 0, 0
	for _, d := range some(300, none, 0, 1, -1, 2, 3, -2, -3, 4) {
		if d.Clocks > 3 {
			continue
		}
		closed, e := dbm.Close(d)
		found := false
		reached := make([]bool, len(d.Bounds))
		sample.Grid(d.Clocks, 4, func(times []api.Rat) {
			is, wrong := dbm.Keeps(d, times)
			if wrong != api.OK {
				t.Fatal(d, times, wrong)
			}
			found = found || is
			if e != api.OK {
				return
			}
			if too, wrong := dbm.Keeps(closed, times); too != is || wrong != api.OK {
				t.Fatalf("%v keep %v: %t, but its closed one %v: %t, %d", times, d, is, closed, too, wrong)
			}
			for i, b := range closed.Bounds {
				lower := with(closed, i/d.Clocks, i%d.Clocks, min(b, most(3))-1)
				if still, _ := dbm.Keeps(lower, times); is && !still {
					reached[i] = true
				}
			}
		})
		if found != (e == api.OK) {
			t.Fatalf("Close(%v): %d, but times that keep it: %t", d, e, found)
		}
		if !found {
			empty++
			continue
		}
		kept++
		if i := slices.Index(reached, false); i >= 0 {
			t.Fatalf("Close(%v) = %v: not the least at %d", d, closed, i)
		}
	}
	if kept < 50 || empty < 20 {
		t.Errorf("%d that are kept and %d that are empty are too few to tell", kept, empty)
	}
}

func TestOnlyReadAndNew(t *testing.T) { // P4.4
	for _, d := range append(many(), sample.Bad()...) {
		held := of(d.Clocks, slices.Clone(d.Bounds)...)
		times := wholes(1, 2, 3)[:max(0, min(d.Clocks-1, 3))]
		dbm.Check(d)
		dbm.Keeps(d, times)
		dbm.Same(d, d)
		closed, e := dbm.Close(d)
		if !dbm.Same(d, held) || !slices.Equal(times, wholes(1, 2, 3)[:len(times)]) {
			t.Fatalf("%v was changed to %v", held, d)
		}
		if e != api.OK {
			continue
		}
		want := of(closed.Clocks, slices.Clone(closed.Bounds)...)
		for i := range closed.Bounds {
			closed.Bounds[i] = 77
		}
		if !dbm.Same(d, held) {
			t.Fatalf("Close(%v) shares memory with what was handed in", held)
		}
		// Nor does it share any with what is answered next.
		if again, _ := dbm.Close(d); !dbm.Same(again, want) {
			t.Fatalf("Close(%v) = %v, want %v once more", d, again, want)
		}
	}
	for clocks := 1; clocks <= 4; clocks++ {
		d, _ := dbm.Top(clocks)
		for i := range d.Bounds {
			d.Bounds[i] = 77
		}
		if again, _ := dbm.Top(clocks); !dbm.Same(again, free(clocks)) {
			t.Errorf("Top(%d) = %v once more", clocks, again)
		}
	}
	// Times are read only, behind their end too.
	times := wholes(3, 9)
	if is, e := dbm.Keeps(of(2, 1, -3, 9, 1), times[:1]); !is || e != api.OK || !slices.Equal(times, wholes(3, 9)) {
		t.Error(is, e, times)
	}
	// What lies behind the bounds says nothing.
	long := []api.Bound{1, -3, 9, 1, 0, 0}
	if d, e := dbm.Close(api.Dbm{Clocks: 2, Bounds: long[:4]}); !dbm.Same(d, of(2, 1, -3, 9, 1)) || e != api.OK || long[4] != 0 {
		t.Error(d, e, long)
	}
}

func TestAnswersHangOnArgumentsAlone(t *testing.T) { // P2
	for _, d := range good() {
		first, e := dbm.Close(d)
		dbm.Close(full(4, most(-edge)))
		dbm.Close(of(3, 1, 0, none, none, 1, 7, -8, 3, 1))
		if again, f := dbm.Close(dbm.Twin(d)); !reflect.DeepEqual(first, again) || e != f {
			t.Fatalf("Close(%v) = %v, %d and %v, %d", d, first, e, again, f)
		}
	}
}
