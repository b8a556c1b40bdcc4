package tight_test

import (
	"math"
	"reflect"
	"slices"
	"testing"

	"rallentando/api"
	"rallentando/dbm"
	"rallentando/rat"
	"rallentando/sample"
	"rallentando/tight"
)

const (
	edge  = 1 << 58
	none  = api.None
	least = math.MinInt
	great = math.MaxInt
)

// What matrices and spans are written with.
var (
	most, less                 = sample.Most, sample.Less
	of, full, with, free       = sample.Of, sample.Full, sample.With, sample.Free
	from, above, below, inside = sample.From, sample.Above, sample.Below, sample.Inside
	on, up, badSpans           = sample.On, sample.Up, sample.BadSpans
)

// The calls, with the chapter's signatures.
var (
	_ func(api.Dbm, int, int, api.Bound) (api.Dbm, api.Errno) = tight.Set
	_ func(api.Dbm, api.Dbm) (api.Dbm, api.Errno)             = tight.Meet
	_ func(api.Dbm, int, api.Span) (api.Dbm, api.Errno)       = tight.Between
)

// answered fails, unless a call answered just that; beside an error that is the zero value.
func answered(t *testing.T, name string, d api.Dbm, e api.Errno, want api.Dbm, wanted api.Errno) {
	t.Helper()
	if wanted != api.OK {
		want = api.Dbm{}
	}
	if !reflect.DeepEqual(d, want) || e != wanted {
		t.Errorf("%s = %v, %d, want %v, %d", name, d, e, want, wanted)
	}
}

func TestExamples(t *testing.T) { // P5.1, P5.2
	d, e := tight.Set(free(2), 1, 0, most(4))
	answered(t, "Set", d, e, of(2, 1, none, 9, 1), api.OK)
	d, e = tight.Meet(d, of(2, 1, -3, none, 1))
	answered(t, "Meet", d, e, of(2, 1, -3, 9, 1), api.OK)
	d, e = tight.Between(free(2), 1, below(2, 4))
	answered(t, "Between", d, e, of(2, 1, -3, 8, 1), api.OK)
	d, e = tight.Set(of(2, 1, -3, 9, 1), 1, 0, most(1))
	answered(t, "Set", d, e, api.Dbm{}, api.ErrNone)
}

func TestSet(t *testing.T) { // P5.1
	box := of(3, 1, most(-1), most(-1), most(4), 1, most(3), most(6), most(5), 1) // x from 1 to 4, y from 1 to 6
	for i, c := range []struct {
		d    api.Dbm
		i, j int
		b    api.Bound
		want api.Dbm
		e    api.Errno
	}{
		// What stands there is replaced by a lesser one alone.
		{of(2, 1, -3, 9, 1), 1, 0, most(3), of(2, 1, -3, 7, 1), api.OK},
		{of(2, 1, -3, 9, 1), 1, 0, less(4), of(2, 1, -3, 8, 1), api.OK},
		{of(2, 1, -3, 8, 1), 1, 0, most(4), of(2, 1, -3, 8, 1), api.OK},
		{of(2, 1, -3, 9, 1), 1, 0, most(4), of(2, 1, -3, 9, 1), api.OK},
		{of(2, 1, -3, 9, 1), 1, 0, most(5), of(2, 1, -3, 9, 1), api.OK},
		{of(2, 1, -3, 9, 1), 1, 0, most(edge), of(2, 1, -3, 9, 1), api.OK},
		{of(2, 1, -3, 9, 1), 1, 0, none, of(2, 1, -3, 9, 1), api.OK},
		{of(2, 1, -3, 9, 1), 0, 1, none, of(2, 1, -3, 9, 1), api.OK},
		{of(2, 1, -3, 9, 1), 0, 1, less(-2), of(2, 1, -4, 9, 1), api.OK},
		{of(2, 1, none, none, 1), 0, 1, most(7), of(2, 1, most(7), none, 1), api.OK},
		// Just kept, and just not.
		{of(2, 1, -3, 9, 1), 1, 0, most(2), of(2, 1, -3, most(2), 1), api.OK},
		{of(2, 1, -3, 9, 1), 1, 0, less(2), api.Dbm{}, api.ErrNone},
		{of(2, 1, -4, 9, 1), 1, 0, most(2), api.Dbm{}, api.ErrNone},
		{of(2, 1, -3, 9, 1), 0, 1, most(-4), of(2, 1, most(-4), 9, 1), api.OK},
		{of(2, 1, -3, 9, 1), 0, 1, less(-4), api.Dbm{}, api.ErrNone},
		{of(2, 1, -3, 9, 1), 0, 1, most(-5), api.Dbm{}, api.ErrNone},
		// What comes is closed: other bounds follow.
		{box, 2, 1, most(0), of(3, 1, most(-1), most(-1), most(4), 1, most(3), most(4), most(0), 1), api.OK},
		{box, 1, 2, less(-2), of(3, 1, most(-1), less(-3), less(4), 1, less(-2), most(6), most(5), 1), api.OK},
		{box, 2, 0, less(2), of(3, 1, most(-1), most(-1), most(4), 1, most(3), less(2), less(1), 1), api.OK},
		{box, 1, 2, less(-5), api.Dbm{}, api.ErrNone},
		{with(with(free(4), 1, 0, most(1)), 3, 2, less(3)), 2, 1, most(2), of(4, 1, none, none, none, most(1), 1, none, none, most(3), most(2), 1, none, less(6), less(5), less(3), 1), api.OK},
		// A clock less itself.
		{of(1, 1), 0, 0, 1, of(1, 1), api.OK},
		{of(1, 1), 0, 0, 2, of(1, 1), api.OK},
		{of(1, 1), 0, 0, none, of(1, 1), api.OK},
		{of(1, 1), 0, 0, 0, api.Dbm{}, api.ErrNone},
		{of(2, 1, -3, 9, 1), 1, 1, 1, of(2, 1, -3, 9, 1), api.OK},
		{of(2, 1, -3, 9, 1), 1, 1, most(edge), of(2, 1, -3, 9, 1), api.OK},
		{of(2, 1, -3, 9, 1), 1, 1, less(edge), of(2, 1, -3, 9, 1), api.OK},
		{of(2, 1, -3, 9, 1), 1, 1, 0, api.Dbm{}, api.ErrNone},
		{of(2, 1, -3, 9, 1), 0, 0, -1, api.Dbm{}, api.ErrNone},
		{free(4), 3, 3, most(-edge), api.Dbm{}, api.ErrNone},
		{free(4), 3, 3, less(-edge), api.Dbm{}, api.ErrNone},
		// Ones that are not closed are closed, even if the bound says nothing.
		{of(2, none, -3, 9, 12), 1, 0, none, of(2, 1, -3, 9, 1), api.OK},
		{of(2, none, -3, 9, 12), 1, 1, 9, of(2, 1, -3, 9, 1), api.OK},
		{full(2, none), 1, 0, most(4), of(2, 1, none, 9, 1), api.OK},
		{of(3, 1, none, none, 3, 1, none, none, 4, 1), 0, 1, none, of(3, 1, none, none, 3, 1, none, less(3), 4, 1), api.OK},
		{of(3, 1, none, none, 3, 1, none, none, 4, 1), 0, 2, most(-3), api.Dbm{}, api.ErrNone},
		// At the edges of numbers.
		{free(2), 1, 0, most(edge), of(2, 1, none, most(edge), 1), api.OK},
		{free(2), 1, 0, less(edge), of(2, 1, none, less(edge), 1), api.OK},
		{free(2), 1, 0, most(-edge), of(2, 1, none, most(-edge), 1), api.OK},
		{free(2), 1, 0, less(-edge), of(2, 1, none, less(-edge), 1), api.OK},
		{free(2), 1, 0, most(edge + 1), api.Dbm{}, api.ErrBad},
		{free(2), 1, 0, less(edge + 1), api.Dbm{}, api.ErrBad},
		{free(2), 1, 0, most(-edge - 1), api.Dbm{}, api.ErrBad},
		{free(2), 1, 0, less(-edge - 1), api.Dbm{}, api.ErrBad},
		{free(2), 1, 0, none - 1, api.Dbm{}, api.ErrBad},
		{free(2), 1, 0, least, api.Dbm{}, api.ErrBad},
		{free(2), 1, 0, most(1 << 61), api.Dbm{}, api.ErrBad},
		{free(2), 1, 1, most(edge + 1), api.Dbm{}, api.ErrBad},
	} {
		d, e := tight.Set(c.d, c.i, c.j, c.b)
		if !reflect.DeepEqual(d, c.want) || e != c.e {
			t.Errorf("%d: Set(%v, %d, %d, %d) = %v, %d, want %v, %d", i, c.d, c.i, c.j, c.b, d, e, c.want, c.e)
		}
	}
}

// outside are no clocks of a matrix of so many.
func outside(clocks int) []int {
	return []int{-1, -clocks, clocks, clocks + 1, 7, 1 << 32, 1 << 62, great, least, least + 1, least + clocks}
}

func TestSetAtClocks(t *testing.T) { // P5.1, P1
	for clocks := 1; clocks <= 4; clocks++ {
		d := free(clocks)
		for i := range clocks {
			for j := range clocks {
				want := d
				if i != j {
					want = with(d, i, j, most(4))
				}
				got, e := tight.Set(d, i, j, most(4))
				answered(t, "Set", got, e, want, api.OK)
			}
			for _, o := range outside(clocks) {
				// A bound that may not be, and one that would empty all, are asked behind the clocks.
				for _, b := range []api.Bound{most(4), none, 0, most(-edge), most(edge + 1), least} {
					got, e := tight.Set(d, i, o, b)
					answered(t, "Set beyond j", got, e, d, api.ErrArg)
					got, e = tight.Set(d, o, i, b)
					answered(t, "Set beyond i", got, e, d, api.ErrArg)
					got, e = tight.Set(d, o, o, b)
					answered(t, "Set beyond both", got, e, d, api.ErrArg)
				}
			}
		}
	}
}

func TestErrBadOfMatrixComesFirst(t *testing.T) { // P5.1, P5.2, P1
	for _, d := range sample.Bad() {
		for _, i := range append(outside(4), 0, 1) {
			for _, b := range []api.Bound{1, 0, none, most(edge + 1)} {
				got, e := tight.Set(d, i, 0, b)
				answered(t, "Set", got, e, d, api.ErrBad)
				got, e = tight.Set(d, 0, i, b)
				answered(t, "Set", got, e, d, api.ErrBad)
			}
			for _, s := range []api.Span{from(0, 1), from(1, 0), on(edge + 1)} {
				got, e := tight.Between(d, i, s)
				answered(t, "Between", got, e, d, api.ErrBad)
			}
		}
		for _, other := range append(append(sample.Bad(), sample.Empty()...), free(1), free(2), free(4)) {
			got, e := tight.Meet(d, other)
			answered(t, "Meet", got, e, d, api.ErrBad)
			got, e = tight.Meet(other, d)
			answered(t, "Meet", got, e, d, api.ErrBad)
		}
	}
}

func TestEmptyStayEmpty(t *testing.T) { // P5.1, P5.2, P1
	for _, d := range sample.Empty() {
		last := d.Clocks - 1
		for _, b := range []api.Bound{1, 0, none, most(edge), less(-edge)} {
			got, e := tight.Set(d, last, 0, b)
			answered(t, "Set", got, e, d, api.ErrNone)
		}
		got, e := tight.Set(d, last, 0, most(edge+1))
		answered(t, "Set of a bound that may not be", got, e, d, api.ErrBad)
		got, e = tight.Set(d, d.Clocks, 0, 1)
		answered(t, "Set beyond", got, e, d, api.ErrArg)
		for _, s := range []api.Span{from(0, 0), on(-edge), from(-edge, edge)} {
			got, e = tight.Between(d, last, s)
			answered(t, "Between", got, e, d, api.ErrNone)
		}
		got, e = tight.Between(d, last, from(1, 0))
		answered(t, "Between of a span that may not be", got, e, d, api.ErrBad)
		got, e = tight.Between(d, -1, from(1, 0))
		answered(t, "Between beyond", got, e, d, api.ErrArg)
		for _, other := range append(sample.Empty(), free(1), free(2), free(3), free(4)) {
			want := api.ErrNone
			if other.Clocks != d.Clocks {
				want = api.ErrDim
			}
			got, e = tight.Meet(d, other)
			answered(t, "Meet", got, e, d, want)
			got, e = tight.Meet(other, d)
			answered(t, "Meet", got, e, d, want)
		}
	}
}

func TestMeet(t *testing.T) { // P5.1
	for i, c := range []struct {
		a, b, want api.Dbm
		e          api.Errno
	}{
		{of(1, 1), of(1, none), of(1, 1), api.OK},
		{of(1, none), of(1, 9), of(1, 1), api.OK},
		{of(1, 1), of(1, 0), api.Dbm{}, api.ErrNone},
		{of(2, 1, -3, none, 1), of(2, 1, none, 9, 1), of(2, 1, -3, 9, 1), api.OK},
		{of(2, 1, -3, 13, 1), of(2, 1, -7, 9, 1), of(2, 1, -7, 9, 1), api.OK},
		{of(2, 1, -3, 9, 1), of(2, 1, -4, 8, 1), of(2, 1, -4, 8, 1), api.OK},
		{of(2, 1, -3, 9, 1), free(2), of(2, 1, -3, 9, 1), api.OK},
		{of(2, none, -3, 9, none), full(2, none), of(2, 1, -3, 9, 1), api.OK},
		{of(2, 1, -3, 9, 1), with(free(2), 1, 1, 0), api.Dbm{}, api.ErrNone},
		// They touch, and just do not.
		{of(2, 1, -3, 9, 1), of(2, 1, most(-4), most(7), 1), of(2, 1, most(-4), most(4), 1), api.OK},
		{of(2, 1, -3, 9, 1), of(2, 1, less(-4), most(7), 1), api.Dbm{}, api.ErrNone},
		{of(2, 1, -3, 8, 1), of(2, 1, most(-4), most(7), 1), api.Dbm{}, api.ErrNone},
		{of(2, 1, -3, 9, 1), of(2, 1, most(-5), most(7), 1), api.Dbm{}, api.ErrNone},
		{with(free(2), 0, 1, most(-edge)), with(free(2), 1, 0, most(edge-1)), api.Dbm{}, api.ErrNone},
		{with(free(2), 0, 1, most(-edge)), with(free(2), 1, 0, most(edge)), of(2, 1, most(-edge), most(edge), 1), api.OK},
		// What follows of both together, though each is closed.
		{with(free(3), 1, 0, most(3)), with(free(3), 2, 1, less(4)), of(3, 1, none, none, most(3), 1, none, less(7), less(4), 1), api.OK},
		{with(free(3), 1, 0, most(3)), with(with(free(3), 2, 1, less(4)), 0, 2, most(-7)), api.Dbm{}, api.ErrNone},
		{with(free(4), 3, 2, most(1)), with(with(free(4), 2, 1, most(1)), 1, 0, most(1)),
			of(4, 1, none, none, none, most(1), 1, none, none, most(2), most(1), 1, none, most(3), most(2), most(1), 1), api.OK},
		{with(with(free(4), 0, 1, most(1)), 2, 3, most(1)), with(with(free(4), 1, 2, most(1)), 3, 0, less(-3)), api.Dbm{}, api.ErrNone},
	} {
		for _, way := range [][2]api.Dbm{{c.a, c.b}, {c.b, c.a}} {
			d, e := tight.Meet(way[0], way[1])
			if !reflect.DeepEqual(d, c.want) || e != c.e {
				t.Errorf("%d: Meet(%v, %v) = %v, %d, want %v, %d", i, way[0], way[1], d, e, c.want, c.e)
			}
		}
	}
	// Unlike Clocks, either way round.
	for a := 1; a <= 4; a++ {
		for b := 1; b <= 4; b++ {
			want := api.OK
			if a != b {
				want = api.ErrDim
			}
			d, e := tight.Meet(free(a), free(b))
			answered(t, "Meet", d, e, free(a), want)
		}
	}
	// One and itself come to its closed one.
	for _, d := range sample.Many() {
		want, wanted := dbm.Close(d)
		got, e := tight.Meet(d, d)
		answered(t, "Meet with itself", got, e, want, wanted)
		got, e = tight.Meet(d, dbm.Twin(d))
		answered(t, "Meet with its twin", got, e, want, wanted)
		got, e = tight.Meet(d, full(d.Clocks, none))
		answered(t, "Meet with none", got, e, want, wanted)
	}
}

func TestBetween(t *testing.T) { // P5.2
	for i, c := range []struct {
		d    api.Dbm
		i    int
		s    api.Span
		want api.Dbm
		e    api.Errno
	}{
		// Each end in it, or not.
		{free(2), 1, from(2, 4), of(2, 1, most(-2), most(4), 1), api.OK},
		{free(2), 1, above(2, 4), of(2, 1, less(-2), most(4), 1), api.OK},
		{free(2), 1, below(2, 4), of(2, 1, most(-2), less(4), 1), api.OK},
		{free(2), 1, inside(2, 4), of(2, 1, less(-2), less(4), 1), api.OK},
		{free(2), 1, on(2), of(2, 1, most(-2), none, 1), api.OK},
		{free(2), 1, up(2), of(2, 1, less(-2), none, 1), api.OK},
		{free(2), 1, from(-4, -2), of(2, 1, most(4), most(-2), 1), api.OK},
		{free(2), 1, api.Span{}, of(2, 1, 1, 1, 1), api.OK},
		// Both ends at one number: none is in it, if one is strict.
		{free(2), 1, from(3, 3), of(2, 1, most(-3), most(3), 1), api.OK},
		{free(2), 1, above(3, 3), api.Dbm{}, api.ErrNone},
		{free(2), 1, below(3, 3), api.Dbm{}, api.ErrNone},
		{free(2), 1, inside(3, 3), api.Dbm{}, api.ErrNone},
		{free(2), 1, inside(3, 4), of(2, 1, less(-3), less(4), 1), api.OK},
		// Together with the bounds that stand there.
		{of(2, 1, -3, 9, 1), 1, from(3, 7), of(2, 1, most(-3), 9, 1), api.OK},
		{of(2, 1, -3, 9, 1), 1, inside(0, 3), of(2, 1, -3, less(3), 1), api.OK},
		{of(2, 1, -3, 9, 1), 1, inside(2, 4), of(2, 1, less(-2), less(4), 1), api.OK},
		{of(2, 1, -4, 8, 1), 1, from(2, 4), of(2, 1, -4, 8, 1), api.OK},
		{of(2, 1, -3, 9, 1), 1, on(0), of(2, 1, -3, 9, 1), api.OK},
		{of(2, 1, -3, 9, 1), 1, on(4), of(2, 1, most(-4), 9, 1), api.OK},
		{of(2, 1, -3, 9, 1), 1, up(4), api.Dbm{}, api.ErrNone},
		{of(2, 1, -3, 9, 1), 1, on(5), api.Dbm{}, api.ErrNone},
		{of(2, 1, -3, 9, 1), 1, from(0, 2), of(2, 1, -3, most(2), 1), api.OK},
		{of(2, 1, -3, 9, 1), 1, below(0, 2), api.Dbm{}, api.ErrNone},
		{of(2, 1, -3, 9, 1), 1, from(0, 1), api.Dbm{}, api.ErrNone},
		// Ones that are not closed are closed.
		{of(2, none, -3, 9, 12), 1, on(-7), of(2, 1, -3, 9, 1), api.OK},
		{with(free(3), 2, 1, less(3)), 1, from(1, 2), of(3, 1, most(-1), none, most(2), 1, none, less(5), less(3), 1), api.OK},
		{with(free(3), 2, 1, less(3)), 2, from(1, 2), of(3, 1, less(2), most(-1), none, 1, none, most(2), less(3), 1), api.OK},
		{with(free(4), 1, 3, most(-1)), 3, up(6), of(4, 1, none, none, less(-6), none, 1, none, most(-1), none, none, 1, none, none, none, none, 1), api.OK},
		// Clock 0 is 0, and in a span, or not.
		{free(1), 0, from(0, 0), free(1), api.OK},
		{of(1, none), 0, from(-1, 1), free(1), api.OK},
		{free(3), 0, from(0, 0), free(3), api.OK},
		{free(3), 0, from(-2, 0), free(3), api.OK},
		{free(3), 0, from(0, 2), free(3), api.OK},
		{free(3), 0, inside(-1, 1), free(3), api.OK},
		{of(2, 1, -3, 9, 1), 0, from(-edge, edge), of(2, 1, -3, 9, 1), api.OK},
		{of(2, 1, -3, 9, 1), 0, on(0), of(2, 1, -3, 9, 1), api.OK},
		{of(2, 1, -3, 9, 1), 0, up(-1), of(2, 1, -3, 9, 1), api.OK},
		{of(2, 1, -3, 9, 1), 0, up(0), api.Dbm{}, api.ErrNone},
		{free(3), 0, on(1), api.Dbm{}, api.ErrNone},
		{free(3), 0, above(0, 2), api.Dbm{}, api.ErrNone},
		{free(3), 0, below(-2, 0), api.Dbm{}, api.ErrNone},
		{free(3), 0, from(1, 2), api.Dbm{}, api.ErrNone},
		{free(3), 0, from(-2, -1), api.Dbm{}, api.ErrNone},
		{free(1), 0, inside(0, 0), api.Dbm{}, api.ErrNone},
		{free(1), 0, from(edge, edge), api.Dbm{}, api.ErrNone},
		{free(1), 0, from(-edge, -edge), api.Dbm{}, api.ErrNone},
		// At the edges of numbers.
		{free(2), 1, from(-edge, edge), of(2, 1, most(edge), most(edge), 1), api.OK},
		{free(2), 1, inside(-edge, edge), of(2, 1, less(edge), less(edge), 1), api.OK},
		{free(2), 1, from(edge, edge), of(2, 1, most(-edge), most(edge), 1), api.OK},
		{free(2), 1, from(-edge, -edge), of(2, 1, most(edge), most(-edge), 1), api.OK},
		{free(2), 1, on(edge), of(2, 1, most(-edge), none, 1), api.OK},
		{free(2), 1, up(edge), of(2, 1, less(-edge), none, 1), api.OK},
		{free(2), 1, on(-edge), of(2, 1, most(edge), none, 1), api.OK},
		{free(2), 1, up(-edge), of(2, 1, less(edge), none, 1), api.OK},
	} {
		d, e := tight.Between(c.d, c.i, c.s)
		if !reflect.DeepEqual(d, c.want) || e != c.e {
			t.Errorf("%d: Between(%v, %d, %v) = %v, %d, want %v, %d", i, c.d, c.i, c.s, d, e, c.want, c.e)
		}
	}
}

func TestBetweenAsksFirst(t *testing.T) { // P5.2, P1
	for clocks := 1; clocks <= 4; clocks++ {
		for _, s := range append(badSpans(), from(2, 4), from(0, 0), above(0, 0), on(0)) {
			for _, i := range outside(clocks) {
				d, e := tight.Between(free(clocks), i, s)
				answered(t, "Between beyond", d, e, free(clocks), api.ErrArg)
			}
		}
		for _, s := range badSpans() {
			for i := range clocks {
				d, e := tight.Between(free(clocks), i, s)
				if !reflect.DeepEqual(d, api.Dbm{}) || e != api.ErrBad {
					t.Errorf("Between of %d clocks, %d, %v = %v, %d, want zero, ErrBad", clocks, i, s, d, e)
				}
			}
		}
		// Each clock but that of nought has its place.
		for i := 1; i < clocks; i++ {
			d, e := tight.Between(free(clocks), i, below(2, 4))
			want := with(with(free(clocks), 0, i, most(-2)), i, 0, less(4))
			for k := 1; k < clocks; k++ {
				if k != i && (d.Bounds[k] != none || d.Bounds[k*clocks] != none) {
					t.Errorf("Between of %d clocks, %d told of clock %d: %v", clocks, i, k, d)
				}
			}
			answered(t, "Between", d, e, want, api.OK)
		}
	}
}

func TestAnswersBeyondMaxConst(t *testing.T) { // P5.1, P5.2
	// Two steps stand there, the third one comes.
	steps := with(with(free(4), 3, 2, most(edge)), 2, 1, most(edge))
	want := of(4, 1, none, none, none, most(edge), 1, none, none, most(2*edge), most(edge), 1, none, most(3*edge), most(2*edge), most(edge), 1)
	d, e := tight.Set(steps, 1, 0, most(edge))
	answered(t, "Set", d, e, want, api.OK)
	d, e = tight.Meet(steps, with(free(4), 1, 0, most(edge)))
	answered(t, "Meet", d, e, want, api.OK)
	d, e = tight.Between(steps, 1, from(-edge, edge))
	if e != api.OK || d.Bounds[12] != most(3*edge) || d.Bounds[8] != most(2*edge) || d.Bounds[1] != most(edge) || d.Bounds[2] != none {
		t.Errorf("Between = %v, %d", d, e)
	}
	if _, e := tight.Set(d, 1, 0, 1); e != api.ErrBad {
		t.Errorf("Set of what is beyond MaxConst: %d, want ErrBad", e)
	}
	// As far below 0.
	back := with(with(free(4), 0, 1, less(-edge)), 1, 2, most(-edge))
	want = of(4, 1, less(-edge), less(-2*edge), less(-3*edge), none, 1, most(-edge), most(-2*edge), none, none, 1, most(-edge), none, none, none, 1)
	d, e = tight.Set(back, 2, 3, most(-edge))
	answered(t, "Set", d, e, want, api.OK)
	d, e = tight.Meet(with(free(4), 2, 3, most(-edge)), back)
	answered(t, "Meet", d, e, want, api.OK)
	d, e = tight.Between(with(with(free(4), 1, 2, most(-edge)), 2, 3, most(-edge)), 1, up(edge))
	answered(t, "Between", d, e, want, api.OK)
	// Not, if a bound that stands behind is lesser.
	d, e = tight.Set(with(steps, 3, 0, most(7)), 1, 0, most(edge))
	if e != api.OK || d.Bounds[12] != most(7) {
		t.Errorf("Set = %v, %d", d, e)
	}
}

// slow is a matrix with lesser bounds, closed: by the chapter's words, and the layer below.
func slow(d api.Dbm, at []int, l []api.Bound) (api.Dbm, api.Errno) {
	d = dbm.Twin(d)
	for k, place := range at {
		if l[k] < d.Bounds[place] {
			d.Bounds[place] = l[k]
		}
	}
	return dbm.Close(d)
}

func TestByTheWords(t *testing.T) { // P5.1, P5.2
	kept, gone := 0, 0
	count := func(e api.Errno) {
		if e == api.OK {
			kept++
		} else {
			gone++
		}
	}
	all := sample.Many()
	for k, d := range all {
		for place := range d.Bounds {
			i, j := place/d.Clocks, place%d.Clocks
			for _, b := range []api.Bound{none, 1, 0, -1, 2, 5, most(edge), less(edge), most(-edge), less(-edge)} {
				want, wanted := slow(d, []int{place}, []api.Bound{b})
				got, e := tight.Set(d, i, j, b)
				answered(t, "Set", got, e, want, wanted)
				count(e)
			}
		}
		for _, other := range all[k:min(k+9, len(all))] {
			if other.Clocks != d.Clocks {
				continue
			}
			var places []int
			for place := range other.Bounds {
				places = append(places, place)
			}
			want, wanted := slow(d, places, other.Bounds)
			got, e := tight.Meet(d, other)
			answered(t, "Meet", got, e, want, wanted)
			count(e)
		}
		for i := range d.Clocks {
			for _, c := range []struct {
				s         api.Span
				low, high api.Bound
			}{{from(0, 1), 1, 3}, {above(-1, 1), 2, 3}, {below(1, 2), -1, 4}, {inside(-2, 0), 4, 0}, {on(0), 1, none}, {up(1), -2, none}, {from(-edge, edge), most(edge), most(edge)}, {inside(edge-1, edge), less(1 - edge), less(edge)}} {
				want, wanted := slow(d, []int{i, i * d.Clocks}, []api.Bound{c.low, c.high})
				got, e := tight.Between(d, i, c.s)
				answered(t, "Between", got, e, want, wanted)
				count(e)
			}
		}
	}
	if kept < 5000 || gone < 5000 {
		t.Errorf("%d that are kept and %d that are not are too few to tell", kept, gone)
	}
}

// keeps tells whether times keep a matrix that may be.
func keeps(t *testing.T, d api.Dbm, times []api.Rat) bool {
	t.Helper()
	is, e := dbm.Keeps(d, times)
	if e != api.OK {
		t.Fatalf("Keeps(%v, %v): %d", d, times, e)
	}
	return is
}

// inSpan tells whether a time is in a span, by its own words.
func inSpan(a api.Rat, s api.Span) bool {
	low, high := a.Num-s.Low*a.Den, s.High*a.Den-a.Num
	return (low > 0 || low == 0 && !s.LowStrict) && (s.Open || high > 0 || high == 0 && !s.HighStrict)
}

// sameTimes fails, unless just the times of which it is said keep what was answered, and there are some just if none was answered as an error.
func sameTimes(t *testing.T, name string, d api.Dbm, e api.Errno, clocks int, said func([]api.Rat) bool) {
	t.Helper()
	found := false
	sample.Grid(clocks, 3, func(times []api.Rat) {
		want := said(times)
		found = found || want
		if e == api.OK && keeps(t, d, times) != want {
			t.Fatalf("%s = %v, of %v: want %t", name, d, times, want)
		}
	})
	if e != api.OK && e != api.ErrNone || e == api.ErrNone && found {
		t.Fatalf("%s: %d, though times keep it: %t", name, e, found)
	}
}

func TestJustTheTimes(t *testing.T) { // P5.4
	for clocks := 1; clocks <= 3; clocks++ {
		l := sample.Some(40, clocks, sample.Few()...)
		for k, d := range l {
			i, j := k%clocks, k/clocks%clocks
			b := sample.Few()[k%len(sample.Few())]
			got, e := tight.Set(d, i, j, b)
			sameTimes(t, "Set", got, e, clocks, func(times []api.Rat) bool {
				all := append([]api.Rat{{Num: 0, Den: 1}}, times...)
				is, _ := rat.Keeps(all[i], all[j], b)
				return is && keeps(t, d, times)
			})
			other := l[(k+1)%len(l)]
			got, e = tight.Meet(d, other)
			sameTimes(t, "Meet", got, e, clocks, func(times []api.Rat) bool {
				return keeps(t, d, times) && keeps(t, other, times)
			})
			s := []api.Span{from(0, 1), above(-1, 1), below(1, 2), inside(-2, 0), on(0), up(1), from(1, 1), above(1, 1), inside(0, 0), on(-2)}[k%10]
			got, e = tight.Between(d, i, s)
			sameTimes(t, "Between", got, e, clocks, func(times []api.Rat) bool {
				all := append([]api.Rat{{Num: 0, Den: 1}}, times...)
				return inSpan(all[i], s) && keeps(t, d, times)
			})
		}
	}
}

// tell is one of some calls that tighten a matrix.
type tell func(api.Dbm) (api.Dbm, api.Errno)

// tells are calls for matrices of so many clocks.
func tells(clocks int) []tell {
	var l []tell
	for i := range clocks {
		for j := range clocks {
			for _, b := range []api.Bound{0, 1, 3, -2, -3, none} {
				l = append(l, func(d api.Dbm) (api.Dbm, api.Errno) { return tight.Set(d, i, j, b) })
			}
		}
		for _, s := range []api.Span{from(0, 2), inside(-1, 1), up(1)} {
			l = append(l, func(d api.Dbm) (api.Dbm, api.Errno) { return tight.Between(d, i, s) })
		}
	}
	for _, other := range sample.Some(5, clocks, sample.Few()...) {
		l = append(l, func(d api.Dbm) (api.Dbm, api.Errno) { return tight.Meet(d, other) }, func(d api.Dbm) (api.Dbm, api.Errno) { return tight.Meet(other, d) })
	}
	return l
}

// then is one call behind another one, that none keep, if none keep what the first one tells.
func then(d api.Dbm, a, b tell) (api.Dbm, api.Errno) {
	d, e := a(d)
	if e != api.OK {
		return d, e
	}
	return b(d)
}

func TestWhichComesFirstTurnsNothing(t *testing.T) { // P5.4
	kept, gone := 0, 0
	for clocks := 1; clocks <= 4; clocks++ {
		calls := tells(clocks)
		for k, d := range sample.Some(12, clocks, sample.Few()...) {
			for i := range calls {
				a, b := calls[i], calls[(i*7+k)%len(calls)]
				one, e := then(d, a, b)
				other, f := then(d, b, a)
				answered(t, "the other way round", other, f, one, e)
				// Twice tells nothing more.
				again, f := then(d, a, a)
				once, e := a(d)
				answered(t, "twice", again, f, once, e)
				if e == api.OK {
					kept++
				} else {
					gone++
				}
			}
		}
	}
	if kept < 500 || gone < 500 {
		t.Errorf("%d that are kept and %d that are not are too few to tell", kept, gone)
	}
}

func TestOnlyReadAndNew(t *testing.T) { // P5.3
	for clocks := 1; clocks <= 4; clocks++ {
		last := clocks - 1
		other := free(clocks)
		for _, c := range []struct {
			name string
			call tell
		}{
			{"Set", func(d api.Dbm) (api.Dbm, api.Errno) { return tight.Set(d, last, 0, 3) }},
			{"Set of none", func(d api.Dbm) (api.Dbm, api.Errno) { return tight.Set(d, last, 0, none) }},
			{"Set of an error", func(d api.Dbm) (api.Dbm, api.Errno) { return tight.Set(d, last, last, 0) }},
			{"Meet", func(d api.Dbm) (api.Dbm, api.Errno) { return tight.Meet(d, other) }},
			{"Meet, the other way round", func(d api.Dbm) (api.Dbm, api.Errno) { return tight.Meet(other, d) }},
			{"Meet with itself", func(d api.Dbm) (api.Dbm, api.Errno) { return tight.Meet(d, d) }},
			{"Between", func(d api.Dbm) (api.Dbm, api.Errno) { return tight.Between(d, last, from(0, 2)) }},
			{"Between of all", func(d api.Dbm) (api.Dbm, api.Errno) { return tight.Between(d, last, from(-edge, edge)) }},
		} {
			for _, d := range append(sample.Some(30, clocks, sample.Few()...), free(clocks), full(clocks, none)) {
				held := of(d.Clocks, slices.Clone(d.Bounds)...)
				got, e := c.call(d)
				if !dbm.Same(d, held) || !dbm.Same(other, free(clocks)) {
					t.Fatalf("%s changed %v to %v", c.name, held, d)
				}
				want := dbm.Twin(got)
				for place := range got.Bounds {
					got.Bounds[place] = 77
				}
				if !dbm.Same(d, held) || !dbm.Same(other, free(clocks)) {
					t.Fatalf("%s of %v shares memory with what was handed in", c.name, held)
				}
				// Nor does it share any with what is answered next.
				again, f := c.call(d)
				answered(t, c.name+" once more", again, f, want, e)
			}
		}
	}
	// What lies behind the bounds is left, and says nothing.
	long := []api.Bound{1, -3, 9, 1, 0, 0}
	d := api.Dbm{Clocks: 2, Bounds: long[:4]}
	got, e := tight.Set(d, 1, 0, most(3))
	answered(t, "Set", got, e, of(2, 1, -3, 7, 1), api.OK)
	got, e = tight.Meet(d, d)
	answered(t, "Meet", got, e, of(2, 1, -3, 9, 1), api.OK)
	got, e = tight.Between(d, 1, from(3, 4))
	answered(t, "Between", got, e, of(2, 1, most(-3), 9, 1), api.OK)
	if !slices.Equal(long, []api.Bound{1, -3, 9, 1, 0, 0}) {
		t.Error(long)
	}
}

func TestAnswersHangOnArgumentsAlone(t *testing.T) { // P2
	for clocks := 1; clocks <= 4; clocks++ {
		for _, call := range tells(clocks) {
			for _, d := range sample.Some(6, clocks, sample.Few()...) {
				first, e := call(d)
				tight.Set(free(4), 3, 2, most(-edge))
				tight.Meet(full(3, 0), full(3, 0))
				tight.Between(free(2), 1, from(1, 0))
				again, f := call(dbm.Twin(d))
				answered(t, "once more", again, f, first, e)
			}
		}
	}
}
