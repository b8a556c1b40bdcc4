package proj_test

import (
	"math"
	"reflect"
	"slices"
	"testing"

	"rallentando/api"
	"rallentando/dbm"
	"rallentando/proj"
	"rallentando/sample"
)

const (
	edge  = 1 << 58
	none  = api.None
	least = math.MinInt
	great = math.MaxInt
)

// What matrices are written with.
var (
	most, less           = sample.Most, sample.Less
	of, full, with, free = sample.Of, sample.Full, sample.With, sample.Free
)

// The calls, with the chapter's signatures.
var (
	_ func(api.Dbm, int) (api.Dbm, api.Errno)   = proj.Drop
	_ func(api.Dbm) (api.Dbm, api.Errno)        = proj.Grow
	_ func(api.Dbm, []int) (api.Dbm, api.Errno) = proj.Move
)

// told fails, unless a call answered just that matrix, or beside an error none.
func told(t *testing.T, name string, d api.Dbm, arg any, to api.Dbm, e api.Errno, want api.Dbm, wanted api.Errno) {
	t.Helper()
	if wanted != api.OK {
		want = api.Dbm{}
	}
	if !reflect.DeepEqual(to, want) || e != wanted {
		t.Errorf("%s(%v, %v) = %v, %d, want %v, %d", name, d, arg, to, e, want, wanted)
	}
}

func dropped(t *testing.T, d api.Dbm, k int, want api.Dbm, wanted api.Errno) {
	t.Helper()
	to, e := proj.Drop(d, k)
	told(t, "Drop", d, k, to, e, want, wanted)
}

func grown(t *testing.T, d api.Dbm, want api.Dbm, wanted api.Errno) {
	t.Helper()
	to, e := proj.Grow(d)
	told(t, "Grow", d, nil, to, e, want, wanted)
}

func moved(t *testing.T, d api.Dbm, order []int, want api.Dbm, wanted api.Errno) {
	t.Helper()
	to, e := proj.Move(d, order)
	told(t, "Move", d, order, to, e, want, wanted)
}

// orders are all orders of so many clocks; the first one leaves them as they are.
func orders(clocks int) [][]int {
	l := [][]int{{0}}
	for len(l[0]) < clocks {
		var longer [][]int
		for _, order := range l {
			for at := len(order); at > 0; at-- {
				longer = append(longer, slices.Insert(slices.Clone(order), at, len(order)))
			}
		}
		l = longer
	}
	return l
}

func TestExamples(t *testing.T) { // P7.1
	grown(t, of(2, 1, -3, 9, 1), of(3, 1, -3, none, 9, 1, none, none, none, 1), api.OK)
	dropped(t, of(3, 1, -3, none, 9, 1, none, none, 3, 1), 1, of(2, 1, none, 11, 1), api.OK)
	moved(t, of(3, 1, 2, 3, 4, 1, 6, 7, 8, 1), []int{0, 2, 1}, of(3, 1, 3, 2, 7, 1, 8, 4, 6, 1), api.OK)
}

func TestDrop(t *testing.T) { // P7.1
	// x from 1 to 4, y less x at most 2, z less y below 3: not closed.
	chain := with(with(with(with(free(4), 0, 1, most(-1)), 1, 0, most(4)), 2, 1, most(2)), 3, 2, less(3))
	back := with(with(with(free(4), 0, 1, most(-edge)), 1, 2, most(-edge)), 2, 3, most(-edge))
	far := with(with(with(free(4), 1, 0, most(edge)), 2, 1, most(edge)), 3, 2, less(edge))
	// One place at a time, each with a number of its own: closed, for those of any two clocks are less than those by way of a third one.
	marked := of(4, 1, 101, 103, 105, 107, 1, 109, 111, 113, 115, 1, 117, 119, 121, 123, 1)
	for i, c := range []struct {
		d    api.Dbm
		k    int
		want api.Dbm
	}{
		{of(2, 1, -3, 9, 1), 1, of(1, 1)},
		{of(2, none, none, none, none), 1, of(1, 1)},
		{of(2, most(edge), less(edge), none, less(5)), 1, of(1, 1)},
		{of(2, 1, most(-edge), most(edge), 1), 1, of(1, 1)},
		{marked, 1, of(3, 1, 103, 105, 113, 1, 117, 119, 123, 1)},
		{marked, 2, of(3, 1, 101, 105, 107, 1, 111, 119, 121, 1)},
		{marked, 3, of(3, 1, 101, 103, 107, 1, 109, 113, 115, 1)},
		// Of the one that goes alone it follows that y is at most 6, and z less x below 5.
		{chain, 1, of(3, 1, none, none, most(6), 1, none, less(9), less(3), 1)},
		{chain, 2, of(3, 1, most(-1), none, most(4), 1, none, less(9), less(5), 1)},
		{chain, 3, of(3, 1, most(-1), none, most(4), 1, none, most(6), most(2), 1)},
		// What the rest comes to is closed, too, and a clock less itself is at most 0.
		{of(3, none, most(-1), none, none, most(edge), most(-1), most(9), none, none), 1, of(2, 1, most(-2), most(9), 1)},
		{of(3, 1, none, most(-1), none, 1, none, most(9), none, 1), 1, of(2, 1, most(-1), most(9), 1)},
		{of(3, 1, none, most(-1), none, 1, none, most(9), none, 1), 2, free(2)},
		{free(4), 1, free(3)},
		{full(4, none), 3, free(3)},
		{full(3, most(0)), 2, full(2, most(0))},
		// Strict, if either bound on the way is.
		{with(with(free(3), 1, 0, less(4)), 2, 1, most(1)), 1, of(2, 1, none, less(5), 1)},
		{with(with(free(3), 1, 0, most(4)), 2, 1, less(1)), 1, of(2, 1, none, less(5), 1)},
		{with(with(free(3), 1, 0, less(4)), 2, 1, less(1)), 1, of(2, 1, none, less(5), 1)},
		{with(with(free(3), 0, 1, less(-4)), 1, 2, most(-1)), 1, of(2, 1, less(-5), none, 1)},
		// Edges, and numbers beyond MaxConst.
		{with(free(2), 1, 0, most(edge)), 1, free(1)},
		{with(with(free(3), 2, 0, less(edge)), 0, 2, most(-edge+1)), 1, of(2, 1, most(1-edge), less(edge), 1)},
		{with(with(free(3), 1, 0, most(edge)), 2, 1, most(edge)), 1, of(2, 1, none, most(2*edge), 1)},
		{with(with(free(3), 1, 0, less(edge)), 2, 1, most(edge)), 1, of(2, 1, none, less(2*edge), 1)},
		{back, 1, of(3, 1, most(-2*edge), most(-3*edge), none, 1, most(-edge), none, none, 1)},
		{back, 2, of(3, 1, most(-edge), most(-3*edge), none, 1, most(-2*edge), none, none, 1)},
		{back, 3, of(3, 1, most(-edge), most(-2*edge), none, 1, most(-edge), none, none, 1)},
		{far, 1, of(3, 1, none, none, most(2*edge), 1, none, less(3*edge), less(edge), 1)},
		{far, 2, of(3, 1, none, none, most(edge), 1, none, less(3*edge), less(2*edge), 1)},
		{far, 3, of(3, 1, none, none, most(edge), 1, none, most(2*edge), most(edge), 1)},
	} {
		dropped(t, c.d, c.k, c.want, api.OK)
		if t.Failed() {
			t.Fatal("row", i)
		}
	}
}

func TestGrow(t *testing.T) { // P7.1
	for _, c := range []struct{ d, want api.Dbm }{
		{of(1, 1), free(2)},
		{of(1, none), of(2, none, none, none, 1)},
		{of(1, 0), of(2, 0, none, none, 1)},
		{of(1, most(-edge)), of(2, most(-edge), none, none, 1)},
		{of(1, less(edge)), of(2, less(edge), none, none, 1)},
		{of(2, 1, -5, 3, 1), of(3, 1, -5, none, 3, 1, none, none, none, 1)},
		{of(2, 12, less(-edge), most(edge), -7), of(3, 12, less(-edge), none, most(edge), -7, none, none, none, 1)},
		{of(2, most(-edge), most(-edge), less(edge), less(edge)), of(3, most(-edge), most(-edge), none, less(edge), less(edge), none, none, none, 1)},
		{of(3, 0, 2, 4, 6, 8, 10, 12, 14, 16), of(4, 0, 2, 4, none, 6, 8, 10, none, 12, 14, 16, none, none, none, none, 1)},
		{full(3, none), with(full(4, none), 3, 3, 1)},
		// Not closed: what follows is not told.
		{with(with(free(3), 1, 0, most(4)), 2, 1, most(1)), with(with(free(4), 1, 0, most(4)), 2, 1, most(1))},
	} {
		grown(t, c.d, c.want, api.OK)
	}
	for _, d := range sample.Many() {
		if d.Clocks == api.MaxClocks {
			grown(t, d, api.Dbm{}, api.ErrFull)
			continue
		}
		want := free(d.Clocks + 1)
		for i := range d.Clocks {
			for j := range d.Clocks {
				want = with(want, i, j, d.Bounds[i*d.Clocks+j])
			}
		}
		grown(t, d, want, api.OK)
	}
}

func TestMove(t *testing.T) { // P7.1
	for _, c := range []struct {
		d     api.Dbm
		order []int
		want  api.Dbm
	}{
		{of(1, less(-edge)), []int{0}, of(1, less(-edge))},
		{of(2, 1, -5, 3, 1), []int{0, 1}, of(2, 1, -5, 3, 1)},
		{of(2, 12, less(-edge), most(edge), none), []int{0, 1}, of(2, 12, less(-edge), most(edge), none)},
		{of(3, 0, 2, 4, 6, 8, 10, 12, 14, 16), []int{0, 2, 1}, of(3, 0, 4, 2, 12, 16, 14, 6, 10, 8)},
		{of(4, 0, 1, 2, 3, 4, 5, 6, 7, 8, 9, 10, 11, 12, 13, 14, 15), []int{0, 2, 3, 1}, of(4, 0, 2, 3, 1, 8, 10, 11, 9, 12, 14, 15, 13, 4, 6, 7, 5)},
		{of(4, 0, 1, 2, 3, 4, 5, 6, 7, 8, 9, 10, 11, 12, 13, 14, 15), []int{0, 3, 1, 2}, of(4, 0, 3, 1, 2, 12, 15, 13, 14, 4, 7, 5, 6, 8, 11, 9, 10)},
		// Not closed: what follows is not told.
		{with(with(free(3), 1, 0, most(4)), 2, 1, most(1)), []int{0, 2, 1}, with(with(free(3), 2, 0, most(4)), 1, 2, most(1))},
	} {
		moved(t, c.d, c.order, c.want, api.OK)
	}
	for _, d := range sample.Many() {
		for _, order := range orders(d.Clocks) {
			want := free(d.Clocks)
			for i, k := range order {
				for j, l := range order {
					want = with(want, i, j, d.Bounds[k*d.Clocks+l])
				}
			}
			moved(t, d, order, want, api.OK)
		}
	}
}

func TestMoveByNoOrder(t *testing.T) { // P7.1
	for clocks := 1; clocks <= api.MaxClocks; clocks++ {
		d, taken := free(clocks), 0
		each := func(order []int) {
			is := slices.ContainsFunc(orders(clocks), func(other []int) bool { return slices.Equal(order, other) })
			if is {
				taken++
				moved(t, d, order, d, api.OK)
				return
			}
			moved(t, d, order, api.Dbm{}, api.ErrArg)
			moved(t, full(clocks, most(-edge)), order, api.Dbm{}, api.ErrArg)
		}
		each(nil)
		l := [][]int{{}}
		for range clocks + 1 {
			var longer [][]int
			for _, order := range l {
				each(order)
				for _, n := range []int{0, 1, 2, 3, 4, -1, least, great} {
					longer = append(longer, append(slices.Clone(order), n))
				}
			}
			l = longer
		}
		for _, order := range l {
			each(order)
		}
		if taken != len(orders(clocks)) {
			t.Errorf("%d orders of %d clocks", taken, clocks)
		}
		// Far too long, and numbers that wrap round to clocks.
		each(make([]int, 100))
		each(append(slices.Clone(orders(clocks)[0]), orders(clocks)[0]...))
		for i := range clocks {
			for _, by := range []int{1 << 8, 1 << 16, 1 << 32, 1 << 62, least, -clocks, clocks} {
				order := slices.Clone(orders(clocks)[0])
				order[i] += by
				each(order)
			}
		}
	}
}

// wrong are numbers of no clock of a matrix that may be dropped.
func wrong(clocks int) []int {
	return []int{0, clocks, -1, clocks + 1, -clocks, least, great, 1 << 32, least + 1, 5, 1<<32 + 1, least + 2}
}

func TestErrors(t *testing.T) { // P7.1, P1
	for _, d := range sample.Bad() {
		for _, k := range append(wrong(2), 1, 2, 3) {
			dropped(t, d, k, api.Dbm{}, api.ErrBad)
		}
		grown(t, d, api.Dbm{}, api.ErrBad)
		for _, order := range [][]int{nil, {}, {0}, {0, 1}, {0, 1, 2}, {0, 1, 2, 3}, {1, 0}, {-1}, {0, 0}} {
			moved(t, d, order, api.Dbm{}, api.ErrBad)
		}
	}
	for _, d := range sample.Many() {
		for _, k := range wrong(d.Clocks) {
			dropped(t, d, k, api.Dbm{}, api.ErrArg)
		}
	}
	for _, d := range sample.Empty() {
		for k := 1; k < d.Clocks; k++ {
			dropped(t, d, k, api.Dbm{}, api.ErrNone)
		}
		moved(t, d, orders(d.Clocks)[0], d, api.OK)
	}
	// Empty by the clock that goes alone, and by the others alone.
	for k := 1; k < 3; k++ {
		dropped(t, with(free(3), 1, 1, less(0)), k, api.Dbm{}, api.ErrNone)
		dropped(t, with(with(free(3), 0, 1, less(-4)), 1, 0, most(4)), k, api.Dbm{}, api.ErrNone)
	}
}

func TestDropByTheWords(t *testing.T) { // P7.1, P7.3
	beyond, gone := 0, 0
	for _, d := range append(sample.Many(), sample.Wide()...) {
		closed, e := dbm.Close(d)
		for k := 1; k < d.Clocks; k++ {
			if e != api.OK {
				dropped(t, d, k, api.Dbm{}, api.ErrNone)
				gone++
				continue
			}
			left := slices.Delete([]int{0, 1, 2, 3}[:d.Clocks], k, k+1)
			want := free(d.Clocks - 1)
			for i, was := range left {
				for j, other := range left {
					want = with(want, i, j, closed.Bounds[was*d.Clocks+other])
				}
			}
			dropped(t, d, k, want, api.OK)
			if dbm.Check(want) != api.OK {
				beyond++
				continue
			}
			// What is left is closed by itself.
			if again, e := dbm.Close(want); !dbm.Same(again, want) || e != api.OK {
				t.Errorf("Close(%v) = %v, %d", want, again, e)
			}
		}
	}
	if beyond < 500 || gone < 500 {
		t.Errorf("%d beyond MaxConst and %d empty are too few to tell", beyond, gone)
	}
}

// keeps tells whether times keep a matrix that may be.
func keeps(t *testing.T, d api.Dbm, times []api.Rat) bool {
	t.Helper()
	is, e := dbm.Keeps(d, times)
	if e != api.OK {
		t.Fatalf("Keeps(%v, %v): %d", d, times, e)
	}
	return is
}

// eighths are times by 8, as far as reach on both sides, in lowest terms.
func eighths(reach int) []api.Rat {
	var l []api.Rat
	for n := -8 * reach; n <= 8*reach; n++ {
		num, den := n, 8
		for num%2 == 0 && den > 1 {
			num, den = num/2, den/2
		}
		l = append(l, api.Rat{Num: num, Den: den})
	}
	return l
}

func TestTimesOfDrop(t *testing.T) { // P7.3
	// Between times by quarters, moved by whole numbers to 2, there is one by eighths, if any.
	between := eighths(5)
	kept, not := 0, 0
	for clocks := 2; clocks <= 4; clocks++ {
		// None more often than not, since most of those that say much are empty.
		for _, d := range sample.Some(30, clocks, append(slices.Repeat([]api.Bound{none}, 12), sample.Few()...)...) {
			for k := 1; k < clocks; k++ {
				to, e := proj.Drop(d, k)
				if e == api.ErrNone {
					continue
				}
				sample.Grid(clocks-1, 2, func(times []api.Rat) {
					is := slices.ContainsFunc(between, func(x api.Rat) bool {
						return keeps(t, d, slices.Insert(slices.Clone(times), k-1, x))
					})
					if keeps(t, to, times) != is {
						t.Fatalf("Drop(%v, %d) = %v is kept by %v: %t, want %t", d, k, to, times, !is, is)
					}
					if is {
						kept++
					} else {
						not++
					}
				})
			}
		}
	}
	if kept < 1000 || not < 1000 {
		t.Errorf("%d times that keep it, and %d that do not, are too few to tell", kept, not)
	}
}

func TestTimesOfGrow(t *testing.T) { // P7.3
	for clocks := 1; clocks <= 3; clocks++ {
		for _, d := range append(sample.Some(12, clocks, sample.Few()...), of(1, 0), of(1, none), of(2, 1, -5, 3, 1)) {
			to, e := proj.Grow(d)
			if e != api.OK {
				t.Fatal(d, e)
			}
			sample.Grid(d.Clocks, 2, func(times []api.Rat) {
				is := keeps(t, d, times)
				for _, x := range []api.Rat{{Num: -1 << 61, Den: 1}, {Num: -7, Den: 4}, {Num: 0, Den: 1}, {Num: 1, Den: 2}, {Num: 1<<61 - 1, Den: 2}, {Num: 1 << 61, Den: 1}} {
					if keeps(t, to, append(slices.Clone(times), x)) != is {
						t.Fatalf("Grow(%v) = %v, at %v and %v: %t, want %t", d, to, times, x, !is, is)
					}
				}
			})
		}
	}
}

func TestDropOfGrow(t *testing.T) { // P7.3
	for _, d := range sample.Many() {
		if d.Clocks == api.MaxClocks {
			continue
		}
		to, _ := proj.Grow(d)
		closed, e := dbm.Close(d)
		dropped(t, to, d.Clocks, closed, e)
	}
}

func TestThereAndBack(t *testing.T) { // P7.3
	for _, d := range sample.Many() {
		for _, order := range orders(d.Clocks) {
			back := make([]int, len(order))
			for i, k := range order {
				back[k] = i
			}
			there, e := proj.Move(d, order)
			if e != api.OK {
				t.Fatal(d, order, e)
			}
			moved(t, there, back, d, api.OK)
			// Two moves are one, and the closed one is moved alike.
			for _, next := range orders(d.Clocks) {
				want, _ := proj.Move(there, next)
				var both []int
				for _, k := range next {
					both = append(both, order[k])
				}
				moved(t, d, both, want, api.OK)
			}
			closed, gone := dbm.Close(d)
			also, empty := dbm.Close(there)
			if gone != empty {
				t.Fatalf("%v is closed with %d, and %v, by %v, with %d", d, gone, there, order, empty)
			}
			if gone == api.OK && dbm.Check(closed) == api.OK {
				moved(t, closed, order, also, api.OK)
			}
		}
	}
}

func TestTimesOfMove(t *testing.T) { // P7.3
	for clocks := 1; clocks <= 4; clocks++ {
		for _, d := range sample.Some(12, clocks, sample.Few()...) {
			for _, order := range orders(clocks) {
				to, _ := proj.Move(d, order)
				sample.Grid(clocks, 5-clocks, func(times []api.Rat) {
					alike := make([]api.Rat, 0, len(times))
					for _, k := range order[1:] {
						alike = append(alike, times[k-1])
					}
					if is := keeps(t, d, times); keeps(t, to, alike) != is {
						t.Fatalf("Move(%v, %v) = %v, at %v for %v: %t, want %t", d, order, to, alike, times, !is, is)
					}
				})
			}
		}
	}
}

// calls go through what each call answers of a matrix: of each clock, and of each order.
func calls(d api.Dbm, each func(to api.Dbm, e api.Errno)) {
	for k := range d.Clocks {
		each(proj.Drop(d, k))
	}
	each(proj.Grow(d))
	for _, order := range orders(d.Clocks) {
		each(proj.Move(d, order))
	}
}

func TestOnlyReadAndNew(t *testing.T) { // P7.2
	for _, d := range sample.Many() {
		held := dbm.Twin(d)
		calls(d, func(to api.Dbm, e api.Errno) {
			told := dbm.Twin(to)
			// What is answered can be gone on with, and what was handed in, too: neither touches the other one.
			for place := range to.Bounds {
				to.Bounds[place] = 77
			}
			_ = append(to.Bounds, 78)
			if !reflect.DeepEqual(d, held) {
				t.Fatalf("%v is now %v", held, d)
			}
			copy(to.Bounds, told.Bounds)
			for place := range d.Bounds {
				d.Bounds[place] = 79
			}
			if !dbm.Same(to, told) {
				t.Fatalf("%v of %v is now %v", told, held, to)
			}
			copy(d.Bounds, held.Bounds)
		})
		for _, order := range orders(d.Clocks) {
			held := slices.Clone(order)
			to, _ := proj.Move(d, order)
			if !slices.Equal(order, held) {
				t.Fatalf("%v is now %v", held, order)
			}
			told := dbm.Twin(to)
			clear(order)
			if !dbm.Same(to, told) {
				t.Fatalf("%v by %v is now %v", told, held, to)
			}
		}
	}
	// What lies behind the bounds, or the order, is left, and says nothing.
	long, far := []api.Bound{1, -3, 9, 1, 0, 0, 0, 0, 0}, []int{0, 1, 2, 3}
	d := api.Dbm{Clocks: 2, Bounds: long[:4]}
	dropped(t, d, 1, of(1, 1), api.OK)
	grown(t, d, of(3, 1, -3, none, 9, 1, none, none, none, 1), api.OK)
	moved(t, d, far[:2], of(2, 1, -3, 9, 1), api.OK)
	if !slices.Equal(long, []api.Bound{1, -3, 9, 1, 0, 0, 0, 0, 0}) || !slices.Equal(far, []int{0, 1, 2, 3}) {
		t.Error(long, far)
	}
}

func TestAnswersHangOnArgumentsAlone(t *testing.T) { // P2
	type answer struct {
		to api.Dbm
		e  api.Errno
	}
	for _, d := range sample.Many() {
		var first, again []answer
		calls(d, func(to api.Dbm, e api.Errno) { first = append(first, answer{dbm.Twin(to), e}) })
		proj.Drop(full(4, none), 2)
		proj.Grow(of(1))
		proj.Move(of(1, 0), []int{0})
		calls(dbm.Twin(d), func(to api.Dbm, e api.Errno) { again = append(again, answer{to, e}) })
		if !reflect.DeepEqual(first, again) {
			t.Fatalf("of %v %v, and then %v", d, first, again)
		}
	}
}
