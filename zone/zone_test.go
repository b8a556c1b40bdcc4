package zone_test

import (
	"reflect"
	"slices"
	"testing"

	"rallentando/api"
	"rallentando/dbm"
	"rallentando/sample"
	"rallentando/zone"
)

func TestExamples(t *testing.T) { // P8.2, P8.3
	made(t, [3]api.Span{below(0, 2), from(1, 3), up(0)}, box, api.OK)
	holds(t, box, at(2, 4), true, api.OK)
	holds(t, box, whole(1, 1), false, api.OK)
	picked(t, box, whole(0, 1), api.OK)
	meets(t, box, box, box, api.OK)
	made(t, [3]api.Span{on(5), from(-edge, 5), up(0)}, api.Zone{}, api.ErrNone)
	made(t, [3]api.Span{on(5), from(0, 5), up(0)}, api.Zone{}, api.ErrNone)
}

func TestMatrix(t *testing.T) { // P8.1
	matrix := func(z api.Zone, want api.Dbm, wanted api.Errno) {
		t.Helper()
		if d, e := zone.Matrix(z); !reflect.DeepEqual(d, want) || e != wanted {
			t.Errorf("Matrix(%v) = %v, %d, want %v, %d", z, d, e, want, wanted)
		}
	}
	matrix(box, of(3, 1, 1, -1, 4, 1, 0, 7, 7, 1), api.OK)
	matrix(api.Zone{2, 4, 6, 8, 10, 12}, of(3, 1, 4, 8, 2, 1, 12, 6, 10, 1), api.OK)
	matrix(all, free(3), api.OK)
	// Not closed, and empty.
	matrix(api.Zone{none, none, 5, none, none, -3}, of(3, 1, none, none, none, 1, -3, 5, none, 1), api.OK)
	matrix(api.Zone{}, of(3, 1, 0, 0, 0, 1, 0, 0, 0, 1), api.OK)
	matrix(api.Zone{3, -5, none, none, none, none}, of(3, 1, -5, none, 3, 1, none, none, none, 1), api.OK)
	for _, z := range mixed(none, most(edge), less(edge), most(-edge), less(-edge)) {
		matrix(z, laid(z), api.OK)
	}
	for i := range 6 {
		for _, z := range []api.Zone{all, box, six, point, far, {}, {3, -5, 3, -5, 3, -5}} {
			for _, b := range beyonds() {
				matrix(put(z, i, b), api.Dbm{}, api.ErrBad)
			}
		}
	}
}

func TestOf(t *testing.T) { // P8.1
	// Each bound in its place, strict and not, and None.
	given(t, of(3, 1, 101, 103, 107, 1, 109, 113, 115, 1), api.Zone{107, 101, 113, 103, 115, 109}, api.OK)
	given(t, of(3, 1, 100, 102, 106, 1, 108, 112, 114, 1), api.Zone{106, 100, 112, 102, 114, 108}, api.OK)
	for i, s := range sides {
		for _, b := range []api.Bound{none, most(5), less(5), most(-5), less(-5), 0, 1, most(edge), less(edge), most(-edge), less(-edge)} {
			given(t, with(free(3), s[0], s[1], b), put(all, i, b), api.OK)
		}
		given(t, laid(put(point, i, none)), point, api.OK)
	}
	given(t, laid(box), box, api.OK)
	given(t, full(3, none), all, api.OK)
	given(t, of(3, none, 1, -1, 4, most(edge), 0, 7, none, 12), box, api.OK)
	// Not closed: what follows is told.
	given(t, with(with(free(3), 1, 0, most(2)), 2, 1, less(1)), api.Zone{most(2), none, less(3), none, less(1), none}, api.OK)
	given(t, with(with(free(3), 0, 1, most(-2)), 1, 2, most(-1)), api.Zone{none, most(-2), none, most(-3), none, most(-1)}, api.OK)
	given(t, with(with(free(3), 1, 0, less(2)), 0, 2, most(-3)), api.Zone{less(2), none, none, most(-3), none, less(-1)}, api.OK)
	// As far as the edges, over a third clock.
	given(t, with(with(free(3), 1, 0, most(edge-1)), 2, 1, most(1)), api.Zone{most(edge - 1), none, most(edge), none, most(1), none}, api.OK)
	given(t, with(with(free(3), 0, 1, less(1-edge)), 1, 2, most(-1)), api.Zone{none, less(1 - edge), none, less(-edge), none, most(-1)}, api.OK)
}

func TestOfErrors(t *testing.T) { // P8.1, P1
	for _, d := range sample.Bad() {
		given(t, d, api.Zone{}, api.ErrBad)
	}
	// Of another size: ahead of what is empty, and of what comes to too much.
	for _, clocks := range []int{1, 2, 4} {
		for _, d := range []api.Dbm{free(clocks), full(clocks, none), full(clocks, 0), full(clocks, most(-edge)), full(clocks, most(edge)), with(free(clocks), 0, clocks-1, 1)} {
			given(t, d, api.Zone{}, api.ErrDim)
		}
		for _, d := range sample.Some(50, clocks, sample.Few()...) {
			given(t, d, api.Zone{}, api.ErrDim)
		}
	}
	given(t, with(with(with(free(4), 1, 0, most(edge)), 2, 1, most(edge)), 3, 2, most(edge)), api.Zone{}, api.ErrDim)
	// Empty: by a clock less itself, by two bounds, by three.
	for i := range 3 {
		given(t, with(free(3), i, i, 0), api.Zone{}, api.ErrNone)
		given(t, with(laid(box), i, i, less(-edge)), api.Zone{}, api.ErrNone)
	}
	for _, s := range sides {
		given(t, with(with(free(3), s[0], s[1], less(5)), s[1], s[0], most(-5)), api.Zone{}, api.ErrNone)
	}
	given(t, with(with(with(free(3), 0, 1, most(5)), 1, 2, most(-8)), 2, 0, most(2)), api.Zone{}, api.ErrNone)
	// Too much, each way over a third clock; and empty at once, which is told first.
	for _, s := range sides {
		third := 3 - s[0] - s[1]
		way := func(b, more api.Bound) api.Dbm { return with(with(free(3), s[0], third, b), third, s[1], more) }
		for _, d := range []api.Dbm{way(most(edge), most(edge)), way(less(edge), less(edge)), way(most(-edge), most(-edge)), way(less(-edge), less(-edge)),
			way(most(edge), most(1)), way(less(1), less(edge)), way(most(-edge), most(-1)), way(less(-1), most(-edge))} {
			given(t, d, api.Zone{}, api.ErrBad)
			given(t, with(d, third, third, 0), api.Zone{}, api.ErrNone)
		}
		given(t, with(way(most(-edge), most(-edge)), s[1], s[0], most(edge)), api.Zone{}, api.ErrNone)
	}
}

func TestOfByTheWords(t *testing.T) { // P8.1
	count := map[api.Errno]int{}
	for _, d := range append(sample.Many(), sample.Wide()...) {
		if d.Clocks != 3 {
			continue
		}
		var want api.Zone
		closed, e := dbm.Close(d)
		if e == api.OK {
			want, e = unlaid(closed), dbm.Check(closed)
		}
		given(t, d, want, e)
		count[e]++
	}
	for _, z := range append(mixed(none, -2, -1, 0, 1, 2), mixed(none, most(edge), less(edge), most(-edge), less(1-edge), 1)...) {
		want, e := follows(z)
		given(t, laid(z), want, e)
		count[e]++
	}
	if count[api.OK] < 1000 || count[api.ErrNone] < 1000 || count[api.ErrBad] < 1000 {
		t.Error(count, "are too few to tell")
	}
}

func TestCheck(t *testing.T) { // P8.1
	for _, z := range []api.Zone{all, box, six, within, point, far, {1, 1, 1, 1, 1, 1}, {most(-edge), most(edge), most(-edge), most(edge), most(0), most(0)},
		{most(edge), most(edge), none, none, none, none}, {none, none, less(edge), most(edge), none, none}, {none, none, none, none, most(edge), less(edge)}} {
		checked(t, z, api.OK)
	}
	for _, z := range wrong() {
		checked(t, z, api.ErrBad)
	}
	// Each place by itself, just at the edges and beyond.
	for i := range 6 {
		for _, b := range []api.Bound{most(edge), less(edge), most(-edge), less(-edge)} {
			checked(t, put(all, i, b), api.OK)
		}
		for _, b := range beyonds() {
			checked(t, put(all, i, b), api.ErrBad)
		}
	}
}

// wanted is what Check is to say of a zone.
func wanted(z api.Zone) api.Errno {
	if mayBe(z) {
		return api.OK
	}
	return api.ErrBad
}

func TestCheckByTheWords(t *testing.T) { // P8.1
	count := map[api.Errno]int{}
	for _, z := range slices.Concat(mixed(none, -2, -1, 0, 1, 2, 3), mixed(none, most(edge), less(edge), most(-edge), less(-edge), 1), mixed(none, most(edge+1), less(-edge-1), most(edge), 1)) {
		checked(t, z, wanted(z))
		count[wanted(z)]++
	}
	if count[api.OK] < 1000 || count[api.ErrBad] < 1000 {
		t.Error(count, "are too few to tell")
	}
}

func TestCheckOnePlaceAlone(t *testing.T) { // P8.1
	var loose [6]int
	for _, z := range every(7, small()) {
		for i := range 6 {
			for _, b := range []api.Bound{z[i] + 1, z[i] + 2, none, most(edge)} {
				if z[i] == none || b <= z[i] {
					continue
				}
				looser := put(z, i, b)
				checked(t, looser, wanted(looser))
				// All else follows from what is left: so this place alone is not closed.
				if closed, _ := follows(looser); closed == z {
					loose[i]++
				}
			}
		}
	}
	if slices.Min(loose[:]) < 100 {
		t.Errorf("%v that are not closed at one place alone are too few to tell", loose)
	}
}

func TestCmp(t *testing.T) { // P8.1
	l := append([]api.Zone{all, box, six, within, point, far, {least, least, least, least, least, least}, {great, 0, 0, 0, 0, least}, {least, 0, 0, 0, 0, great}, {0, great, least}, {0, least, great}, {-1}, {1}}, wrong()...)
	for i := range 6 {
		for _, b := range []api.Bound{least, least + 1, -1, 0, 1, 4, great - 1, great} {
			l = append(l, put(box, i, b), put(api.Zone{}, i, b))
		}
	}
	for _, a := range l {
		for _, b := range l {
			want := 0
			for i := range 6 {
				switch {
				case want == 0 && a[i] < b[i]:
					want = -1
				case want == 0 && a[i] > b[i]:
					want = 1
				}
			}
			if n := zone.Cmp(a, b); n != want {
				t.Fatalf("Cmp(%v, %v) = %d, want %d", a, b, n, want)
			}
		}
	}
}

func TestCmpOnePlaceAlone(t *testing.T) { // P8.1
	for i := range 6 {
		// The first one that is not the same tells, whatever is behind it.
		ahead, behind := put(box, i, box[i]-1), box
		for k := i + 1; k < 6; k++ {
			ahead[k], behind[k] = great, least
		}
		for _, p := range [][2]api.Zone{{ahead, behind}, {put(box, i, box[i]-1), box}, {box, put(box, i, box[i]+1)},
			{put(box, i, least), put(box, i, great)}, {put(box, i, least), put(box, i, least+1)}, {put(box, i, great-1), put(box, i, great)}} {
			if zone.Cmp(p[0], p[1]) != -1 || zone.Cmp(p[1], p[0]) != 1 || zone.Cmp(p[0], p[0]) != 0 || zone.Cmp(p[1], p[1]) != 0 {
				t.Errorf("Cmp of %v, at %d", p, i)
			}
		}
	}
}

func TestMatrixAndBack(t *testing.T) { // P8.1
	for _, z := range append(small(), wide()...) {
		d, e := zone.Matrix(z)
		if e != api.OK {
			t.Fatalf("Matrix(%v): %d", z, e)
		}
		given(t, d, z, api.OK)
	}
}

func TestOnlyReadAndNew(t *testing.T) { // P8.4, P2
	for _, d := range append(sample.Many(), sample.Bad()...) {
		held := dbm.Twin(d)
		z, e := zone.Of(d)
		if !reflect.DeepEqual(d, held) {
			t.Fatalf("Of(%v) left %v", held, d)
		}
		if e != api.OK {
			continue
		}
		// A matrix is new each time: what is done to one touches no other, and nothing that is asked behind it.
		m, _ := zone.Matrix(z)
		other, _ := zone.Matrix(z)
		for place := range m.Bounds {
			m.Bounds[place] = 77
		}
		_ = append(m.Bounds, 78)
		again, e := zone.Matrix(z)
		if !dbm.Same(other, laid(z)) || !dbm.Same(again, laid(z)) || e != api.OK {
			t.Fatalf("of %v %v, and then %v, %d", z, other, again, e)
		}
	}
	// What lies behind the bounds is left, and says nothing.
	long := append(laid(box).Bounds, 0, -1)
	given(t, api.Dbm{Clocks: 3, Bounds: long[:9]}, box, api.OK)
	if !slices.Equal(long, append(laid(box).Bounds, 0, -1)) {
		t.Error(long)
	}
}

// answers are all that is said of two zones, a point and spans.
type answers struct {
	d              api.Dbm
	of, made, both api.Zone
	has, in        bool
	cmp            int
	p              api.Point
	e              [8]api.Errno
}

func ask(a, b api.Zone, p api.Point, l [3]api.Span) answers {
	var x answers
	x.d, x.e[0] = zone.Matrix(a)
	x.of, x.e[1] = zone.Of(laid(a))
	x.e[2] = zone.Check(a)
	x.made, x.e[3] = zone.Make(l[0], l[1], l[2])
	x.has, x.e[4] = zone.Has(a, p)
	x.in, x.e[5] = zone.In(a, b)
	x.both, x.e[6] = zone.Meet(a, b)
	x.p, x.e[7] = zone.Pick(a)
	x.cmp = zone.Cmp(a, b)
	return x
}

func TestAnswersHangOnArgumentsAlone(t *testing.T) { // P8.4, P2
	l := slices.Concat(every(97, small()), every(97, wide()), wrong())
	spans := [][3]api.Span{{below(0, 2), from(1, 3), up(0)}, {on(5), from(0, 5), up(0)}, {on(edge), on(0), on(1)}, {on(0), on(edge + 1), on(0)}}
	p := []api.Point{whole(0, 1), at(1, 3), {}, whole(1, 2)}
	one := func(i int) answers { return ask(l[i], l[(i*7+1)%len(l)], p[i%len(p)], spans[i%len(spans)]) }
	var first []answers
	for i := range l {
		first = append(first, one(i))
	}
	// Once more, from the end: neither what was asked ahead nor how often turns an answer.
	for i := len(l) - 1; i >= 0; i-- {
		if again := one(i); !reflect.DeepEqual(first[i], again) {
			t.Fatalf("of %v %v, then %v", l[i], first[i], again)
		}
	}
}
