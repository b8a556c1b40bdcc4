package zone_test

import (
	"slices"
	"testing"

	"rallentando/api"
	"rallentando/incl"
	"rallentando/sample"
	"rallentando/zone"
)

func TestMake(t *testing.T) { // P8.2
	for _, c := range []struct {
		l    [3]api.Span
		want api.Zone
	}{
		{[3]api.Span{from(1, 1), from(2, 2), from(1, 1)}, point},
		{[3]api.Span{from(1, 1), from(2, 2), on(-9)}, point},
		{[3]api.Span{from(1, 1), on(-9), from(1, 1)}, point},
		{[3]api.Span{on(-9), from(2, 2), from(1, 1)}, point},
		{[3]api.Span{from(0, 4), from(0, 4), from(-2, 2)}, six},
		{[3]api.Span{inside(0, 4), inside(0, 4), inside(-2, 2)}, within},
		// Each end of each by itself, strict or not.
		{[3]api.Span{below(0, 4), from(0, 4), from(-2, 2)}, put(six, 0, less(4))},
		{[3]api.Span{above(0, 4), from(0, 4), from(-2, 2)}, put(six, 1, less(0))},
		{[3]api.Span{from(0, 4), below(0, 4), from(-2, 2)}, put(six, 2, less(4))},
		{[3]api.Span{from(0, 4), above(0, 4), from(-2, 2)}, put(six, 3, less(0))},
		{[3]api.Span{from(0, 4), from(0, 4), below(-2, 2)}, put(six, 4, less(2))},
		{[3]api.Span{from(0, 4), from(0, 4), above(-2, 2)}, put(six, 5, less(2))},
		// Open ones; what follows of two is told of the third one.
		{[3]api.Span{on(0), on(0), on(0)}, api.Zone{none, 1, none, 1, none, 1}},
		{[3]api.Span{up(0), on(0), on(0)}, api.Zone{none, 0, none, 0, none, 1}},
		{[3]api.Span{on(0), up(1), up(2)}, api.Zone{none, 1, none, less(-2), none, less(-2)}},
		{[3]api.Span{on(3), from(0, 5), on(0)}, api.Zone{most(5), most(-3), most(5), most(-3), most(2), most(0)}},
		{[3]api.Span{below(0, 2), on(0), from(1, 3)}, api.Zone{less(2), most(0), less(5), most(-1), most(3), most(-1)}},
		{[3]api.Span{from(-3, -1), from(-1, 1), on(-5)}, api.Zone{most(-1), most(3), most(1), most(1), most(4), most(0)}},
		// At the edges.
		{[3]api.Span{on(-edge), on(-edge), on(-edge)}, api.Zone{none, most(edge), none, most(edge), none, most(edge)}},
		{[3]api.Span{on(edge), on(-edge), from(0, 0)}, api.Zone{none, most(-edge), none, most(-edge), 1, 1}},
		{[3]api.Span{from(edge, edge), from(0, 0), on(-edge)}, far},
		{[3]api.Span{from(0, 0), from(-edge, edge), on(-edge)}, api.Zone{1, 1, most(edge), most(edge), most(edge), most(edge)}},
		{[3]api.Span{from(0, 0), inside(-edge, edge), on(-edge)}, api.Zone{1, 1, less(edge), less(edge), less(edge), less(edge)}},
		{[3]api.Span{from(-edge, edge), from(-edge, edge), from(-edge, edge)}, api.Zone{most(edge), most(edge), most(edge), most(edge), most(edge), most(edge)}},
	} {
		made(t, c.l, c.want, api.OK)
	}
}

func TestMakeOfBadSpans(t *testing.T) { // P8.2, P1
	// Ahead of all else, wherever it stands and whatever stands beside it.
	others := slices.Concat([]api.Span{on(0), from(0, 4), from(5, 5), on(edge), from(-edge, -edge)}, nothings(), badSpans())
	for _, bad := range badSpans() {
		for k, s := range others {
			other := others[(k+3)%len(others)]
			for _, l := range [][3]api.Span{{bad, s, other}, {s, bad, other}, {other, s, bad}, {bad, on(0), on(0)}, {on(0), bad, on(0)}, {on(0), on(0), bad}} {
				made(t, l, api.Zone{}, api.ErrBad)
			}
		}
	}
}

func TestMakeOfNothing(t *testing.T) { // P8.2, P1
	for _, n := range nothings() {
		// Beside numbers that are too far apart, too.
		for _, s := range []api.Span{on(0), from(0, 4), inside(0, 1), on(edge), from(-edge, -edge), from(0, edge), on(-edge)} {
			for _, l := range [][3]api.Span{{n, s, s}, {s, n, s}, {s, s, n}, {n, n, s}, {s, n, n}, {n, s, n}, {n, n, n}} {
				made(t, l, api.Zone{}, api.ErrNone)
			}
		}
	}
	// None of the spans is empty, and no point is in all three.
	for _, l := range [][3]api.Span{
		{on(5), from(0, 4), on(0)}, {on(5), from(0, 5), up(0)}, {up(5), from(0, 5), on(0)}, {on(5), below(0, 5), on(0)},
		{from(0, 2), on(5), from(0, 2)}, {from(0, 2), up(4), from(0, 2)}, {below(0, 2), on(4), from(0, 2)}, {from(0, 2), on(4), below(0, 2)},
		{from(0, 0), from(0, 0), from(1, 1)}, {from(edge, edge), from(-edge, -edge), on(-edge)}, {from(-edge, -edge), from(edge, edge), from(-edge, edge)},
	} {
		made(t, l, api.Zone{}, api.ErrNone)
	}
}

func TestMakeTooFarApart(t *testing.T) { // P8.2
	// By each bound that follows from two, and what is just not too far.
	for _, c := range []struct{ too, well [3]api.Span }{
		{[3]api.Span{on(0), from(0, 1), on(-edge)}, [3]api.Span{on(0), from(0, 0), on(-edge)}},           // t
		{[3]api.Span{on(0), on(edge), from(-edge, -1)}, [3]api.Span{on(0), on(edge), from(-edge, 0)}},    // 0 - t
		{[3]api.Span{from(0, edge), on(0), from(0, 1)}, [3]api.Span{from(0, edge-1), on(0), from(0, 1)}}, // u
		{[3]api.Span{on(edge), on(0), on(1)}, [3]api.Span{on(edge), on(0), up(0)}},                       // 0 - u
		{[3]api.Span{on(-edge), from(0, 1), on(0)}, [3]api.Span{on(-edge), from(-1, 0), on(0)}},          // u - t
		{[3]api.Span{from(-edge, -edge), on(1), on(0)}, [3]api.Span{from(-edge, -edge), on(0), on(0)}},   // t - u
	} {
		made(t, c.too, api.Zone{}, api.ErrBad)
		want, _ := follows(sample.Spanned(c.well))
		made(t, c.well, want, api.OK)
	}
}

func TestMakeByTheWords(t *testing.T) { // P8.2, P8.5
	l := []api.Span{from(0, 0), from(0, 2), above(0, 2), below(0, 2), inside(0, 2), inside(0, 1), on(1), up(1), from(-1, 1), inside(2, 3), on(-3), above(1, 1), inside(0, 0)}
	kept, gone, apart := 0, 0, 0
	triples(l, func(s [3]api.Span) {
		want, e := follows(sample.Spanned(s))
		made(t, s, want, e)
		found := false
		grid(func(at, to int) {
			is := sample.IsIn(at, s[0]) && sample.IsIn(to, s[1]) && sample.IsIn(to-at, s[2])
			found = found || is
			if is != (e == api.OK && has(want, at, to)) {
				t.Fatalf("%v at %d, %d by quarters: %t", s, at, to, is)
			}
		})
		if found != (e == api.OK) {
			t.Fatalf("%v: %t, %d", s, found, e)
		}
		if found {
			kept++
		} else {
			gone++
		}
	})
	triples([]api.Span{from(0, 0), on(0), up(1), inside(-1, 1), from(-edge, edge), from(edge, edge), from(-edge, -edge), below(0, edge), above(-edge, 0), on(-edge), on(edge), up(edge), below(edge, edge)}, func(s [3]api.Span) {
		want, e := follows(sample.Spanned(s))
		made(t, s, want, e)
		if e == api.ErrBad {
			apart++
		}
	})
	if kept < 300 || gone < 300 || apart < 200 {
		t.Errorf("%d zones, %d empty, %d too far apart are too few to tell", kept, gone, apart)
	}
}

func TestHas(t *testing.T) { // P8.3
	// On each side, which is the zone's or not, and at each corner.
	for _, p := range [][2]int{{16, 12}, {0, 4}, {12, 16}, {4, 0}, {4, 12}, {12, 4}, {16, 16}, {0, 0}, {8, 16}, {16, 8}, {0, 8}, {8, 0}} {
		holds(t, six, at(p[0], p[1]), true, api.OK)
		holds(t, within, at(p[0], p[1]), false, api.OK)
	}
	// Inside, in the middle and next to each side.
	for _, p := range [][2]int{{8, 8}, {15, 12}, {1, 4}, {12, 15}, {4, 1}, {4, 11}, {11, 4}, {14, 12}, {2, 3}, {15, 15}, {1, 1}, {9, 15}, {7, 1}} {
		holds(t, six, at(p[0], p[1]), true, api.OK)
		holds(t, within, at(p[0], p[1]), true, api.OK)
	}
	// Outside by one bound alone, by a quarter, a half, and more: of t, 0 - t, u, 0 - u, u - t, t - u.
	for _, n := range []int{1, 2, 4} {
		for _, p := range [][2]int{{16 + n, 14}, {-n, 2}, {14, 16 + n}, {2, -n}, {4, 12 + n}, {12 + n, 4}} {
			holds(t, six, at(p[0], p[1]), false, api.OK)
			holds(t, within, at(p[0], p[1]), false, api.OK)
		}
	}
	holds(t, point, whole(1, 2), true, api.OK)
	holds(t, point, at(5, 9), false, api.OK)
	holds(t, far, whole(edge, 0), true, api.OK)
	holds(t, far, whole(edge+1, 1), false, api.OK)
	// None lets all through, as far as times may be.
	for _, p := range []api.Point{whole(1<<61, 4), whole(-1<<61, 0), whole(4, 1<<61), whole(0, -1<<61), whole(-1<<61, 1<<61), whole(1<<61, -1<<61), {T: by(1, 1<<20), U: by(-1, 1<<20-1)}} {
		holds(t, all, p, true, api.OK)
	}
}

func TestHasErrors(t *testing.T) { // P8.3, P1
	times := append(badTimes(), by(0, 1), by(1, 1), by(3, 2))
	for _, bad := range badTimes() {
		for _, z := range []api.Zone{all, box, six, within, point, far} {
			for _, x := range times {
				holds(t, z, api.Point{T: bad, U: x}, false, api.ErrBad)
				holds(t, z, api.Point{T: x, U: bad}, false, api.ErrBad)
			}
		}
	}
	for _, z := range wrong() {
		for _, x := range times {
			holds(t, z, api.Point{T: x, U: by(1, 1)}, false, api.ErrBad)
			holds(t, z, api.Point{T: by(1, 1), U: x}, false, api.ErrBad)
		}
		// Points that its bounds let through, if any do.
		for _, p := range []api.Point{whole(1, 2), whole(0, 0), whole(edge, 0)} {
			holds(t, z, p, false, api.ErrBad)
		}
	}
}

func TestHasByTheWords(t *testing.T) { // P8.3
	count := map[bool]int{}
	for _, z := range every(131, small()) {
		for t4 := -18; t4 <= 18; t4++ {
			for u4 := -18; u4 <= 18; u4++ {
				want := has(z, t4, u4)
				holds(t, z, at(t4, u4), want, api.OK)
				count[want]++
			}
		}
	}
	// Next to the edges, by sixteenths and by less.
	times := []api.Rat{by(0, 1), by(1, 3), by(1, 1), by(-1, 1<<20), by(1, 1<<20-1)}
	for _, c := range []int{edge, -edge} {
		times = append(times, by(c, 1), by(c+1, 1), by(c-1, 1), by(16*c+1, 16), by(16*c-1, 16), by(2*c+1, 2))
	}
	for _, z := range every(23, wide()) {
		for _, a := range times {
			for _, b := range times {
				p := api.Point{T: a, U: b}
				want := hasExactly(z, p)
				holds(t, z, p, want, api.OK)
				count[want]++
			}
		}
	}
	if count[true] < 10000 || count[false] < 10000 {
		t.Error(count, "are too few to tell")
	}
}

func TestTwo(t *testing.T) { // P8.3
	left, right := api.Zone{most(2), most(0), none, none, none, none}, api.Zone{most(5), most(-2), none, none, none, none}
	for _, c := range []struct {
		a, b        api.Zone
		lies, holds bool // a in b, and b in a
		both        api.Zone
		e           api.Errno
	}{
		// The same.
		{box, box, true, true, box, api.OK},
		{all, all, true, true, all, api.OK},
		{point, point, true, true, point, api.OK},
		{far, far, true, true, far, api.OK},
		// Within each other: by much, by a side, by one point.
		{six, all, true, false, six, api.OK},
		{within, six, true, false, within, api.OK},
		{point, six, true, false, point, api.OK},
		{point, box, true, false, point, api.OK},
		{point, within, true, false, point, api.OK},
		{put(six, 0, less(4)), six, true, false, put(six, 0, less(4)), api.OK},
		{put(six, 5, less(2)), six, true, false, put(six, 5, less(2)), api.OK},
		{far, put(all, 0, most(edge)), true, false, far, api.OK},
		// They overlap; what follows of both is told.
		{six, box, false, false, api.Zone{less(2), most(0), most(3), most(-1), most(2), less(0)}, api.OK},
		{put(all, 0, most(4)), put(all, 1, less(1)), false, false, api.Zone{most(4), less(1), none, none, none, none}, api.OK},
		{put(all, 0, most(2)), put(all, 4, less(1)), false, false, api.Zone{most(2), none, less(3), none, less(1), none}, api.OK},
		{put(all, 3, most(-4)), put(all, 4, most(1)), false, false, api.Zone{none, most(-3), none, most(-4), most(1), none}, api.OK},
		{within, put(six, 0, most(3)), false, false, put(within, 0, most(3)), api.OK},
		// They touch in a side: of both, of the one, of the other, of neither.
		{left, right, false, false, api.Zone{most(2), most(-2), none, none, none, none}, api.OK},
		{put(left, 0, less(2)), right, false, false, api.Zone{}, api.ErrNone},
		{left, put(right, 1, less(-2)), false, false, api.Zone{}, api.ErrNone},
		{put(left, 0, less(2)), put(right, 1, less(-2)), false, false, api.Zone{}, api.ErrNone},
		{put(all, 4, most(1)), put(all, 5, most(-1)), false, false, api.Zone{none, none, none, none, most(1), most(-1)}, api.OK},
		{put(all, 4, most(1)), put(all, 5, less(-1)), false, false, api.Zone{}, api.ErrNone},
		{put(all, 2, less(1)), put(all, 3, most(-1)), false, false, api.Zone{}, api.ErrNone},
		// In a corner alone.
		{six, api.Zone{none, most(-4), none, most(-4), none, none}, false, false, api.Zone{most(4), most(-4), most(4), most(-4), most(0), most(0)}, api.OK},
		{put(six, 2, less(4)), api.Zone{none, most(-4), none, most(-4), none, none}, false, false, api.Zone{}, api.ErrNone},
		// Apart: by one bound, and by what follows alone.
		{left, put(all, 1, most(-3)), false, false, api.Zone{}, api.ErrNone},
		{point, far, false, false, api.Zone{}, api.ErrNone},
		{six, put(all, 5, most(-3)), false, false, api.Zone{}, api.ErrNone},
		{put(all, 0, most(1)), api.Zone{none, most(-2), none, most(-4), most(2), none}, false, false, api.Zone{}, api.ErrNone},
		// Edges.
		{put(all, 0, less(edge)), put(all, 0, most(edge)), true, false, put(all, 0, less(edge)), api.OK},
		{put(all, 0, most(-edge)), put(all, 1, most(edge)), false, false, api.Zone{most(-edge), most(edge), none, none, none, none}, api.OK},
		{put(all, 0, less(-edge)), put(all, 1, most(edge)), false, false, api.Zone{}, api.ErrNone},
		// What comes may not be.
		{put(all, 0, most(edge)), put(all, 4, most(edge)), false, false, api.Zone{}, api.ErrBad},
		{put(all, 0, most(edge)), put(all, 4, most(1)), false, false, api.Zone{}, api.ErrBad},
		{put(all, 0, most(edge)), put(all, 4, most(0)), false, false, api.Zone{most(edge), none, most(edge), none, most(0), none}, api.OK},
		{put(all, 1, most(-edge)), put(all, 2, most(1)), false, false, api.Zone{none, most(-edge), most(1), none, most(1 - edge), none}, api.OK},
		{put(all, 1, most(-edge)), put(all, 2, most(-1)), false, false, api.Zone{}, api.ErrBad},
		{put(all, 3, less(edge)), put(all, 0, less(1)), false, false, api.Zone{}, api.ErrBad},
	} {
		lies(t, c.a, c.b, c.lies, api.OK)
		lies(t, c.b, c.a, c.holds, api.OK)
		meets(t, c.a, c.b, c.both, c.e)
		meets(t, c.b, c.a, c.both, c.e)
	}
}

func TestBelowErrors(t *testing.T) { // P8.3, P1
	for _, z := range wrong() {
		picked(t, z, api.Point{}, api.ErrBad)
		for _, other := range append([]api.Zone{all, box, six, point, far, z}, wrong()[:8]...) {
			lies(t, z, other, false, api.ErrBad)
			lies(t, other, z, false, api.ErrBad)
			meets(t, z, other, api.Zone{}, api.ErrBad)
			meets(t, other, z, api.Zone{}, api.ErrBad)
		}
	}
}

func TestTwoByPoints(t *testing.T) { // P8.3, P8.5
	l := append(every(53, small()), all, six, within, point)
	var had [][]bool
	for _, z := range l {
		had = append(had, points(z))
	}
	in, apart, over := 0, 0, 0
	for i, a := range l {
		for k, b := range l {
			inside := true
			var both []bool
			for p := range had[i] {
				inside = inside && (!had[i][p] || had[k][p])
				both = append(both, had[i][p] && had[k][p])
			}
			lies(t, a, b, inside, api.OK)
			z, e := zone.Meet(a, b)
			if e == api.ErrNone {
				apart++
				told(t, "Meet", z, e, api.Zone{}, api.ErrNone, a, b)
				if slices.Contains(both, true) {
					t.Fatalf("Meet(%v, %v) = %v, %d", a, b, z, e)
				}
				continue
			}
			checked(t, z, api.OK)
			// One lies in another one just if what they have in common is it.
			if e != api.OK || !slices.Equal(points(z), both) || inside != (z == a) {
				t.Fatalf("Meet(%v, %v) = %v, %d", a, b, z, e)
			}
			if inside {
				in++
			} else {
				over++
			}
		}
	}
	if len(l) < 50 || in < 100 || apart < 100 || over < 100 {
		t.Errorf("of %d zones %d that lie in one another, %d that are apart, %d others are too few to tell", len(l), in, apart, over)
	}
}

func TestTwoByTheWords(t *testing.T) { // P8.3, P8.5
	count := map[api.Errno]int{}
	for _, l := range [][]api.Zone{append(every(53, small()), box, six), append(every(13, wide()), far)} {
		for i, a := range l {
			for _, b := range l[i:] {
				// Bounds of zones that may be are the least ones: so one lies in another one just if none is greater.
				inside, outside, common := true, true, a
				for k := range 6 {
					inside, outside = inside && a[k] <= b[k], outside && b[k] <= a[k]
					common[k] = min(a[k], b[k])
				}
				lies(t, a, b, inside, api.OK)
				lies(t, b, a, outside, api.OK)
				want, e := follows(common)
				meets(t, a, b, want, e)
				meets(t, b, a, want, e)
				count[e]++
			}
		}
	}
	if count[api.OK] < 1000 || count[api.ErrNone] < 1000 || count[api.ErrBad] < 1000 {
		t.Error(count, "are too few to tell")
	}
}

func TestNoTwoHaveTheSamePoints(t *testing.T) { // P8.5
	told := map[string]api.Zone{}
	for _, z := range small() {
		if zone.Check(z) != api.OK {
			t.Fatal(z)
		}
		var key []byte
		for _, is := range points(z) {
			if is {
				key = append(key, 1)
			} else {
				key = append(key, 0)
			}
		}
		if other, is := told[string(key)]; is {
			t.Fatalf("%v and %v have the same points", z, other)
		}
		told[string(key)] = z
	}
	if len(told) < 1000 {
		t.Errorf("%d zones are too few to tell", len(told))
	}
}

func TestPick(t *testing.T) { // P8.3
	for _, c := range []struct {
		z    api.Zone
		want api.Point
	}{
		{all, whole(0, 0)},
		{box, whole(0, 1)},
		{six, whole(0, 0)},
		{point, whole(1, 2)},
		{far, whole(edge, 0)},
		// Strict sides: the middle of both, and what is 1 off one.
		{within, whole(2, 2)},
		{api.Zone{less(1), less(0), less(1), less(0), less(1), less(0)}, at(2, 3)},
		{api.Zone{less(1), less(0), less(1), less(0), less(0), less(1)}, at(2, 1)},
		{api.Zone{less(3), less(-2), none, none, none, none}, api.Point{T: by(5, 2), U: by(0, 1)}},
		{put(all, 1, less(-3)), whole(4, 0)},
		{put(all, 0, less(-3)), whole(-4, 0)},
		{put(all, 2, less(-3)), whole(0, -4)},
		{put(all, 3, less(-3)), whole(0, 4)},
		{put(all, 4, less(-3)), whole(0, -4)},
		{put(all, 5, less(-3)), whole(0, 4)},
		// One end that is not strict is taken, the low one ahead.
		{api.Zone{most(4), most(-2), none, none, none, none}, whole(2, 0)},
		{api.Zone{most(4), less(-2), none, none, none, none}, whole(4, 0)},
		{api.Zone{none, none, most(4), less(-2), none, none}, whole(0, 4)},
		{put(all, 0, most(5)), whole(5, 0)},
		{put(all, 2, most(5)), whole(0, 5)},
		{put(all, 4, most(-5)), whole(0, -5)},
		{put(all, 5, most(-5)), whole(0, 5)},
		// At the edges.
		{put(all, 1, less(-edge)), whole(edge+1, 0)},
		{put(all, 0, most(-edge)), whole(-edge, 0)},
		{api.Zone{less(edge), less(1 - edge), none, none, none, none}, api.Point{T: by(2*edge-1, 2), U: by(0, 1)}},
		{api.Zone{none, less(-edge), none, less(-edge), most(0), most(0)}, whole(edge+1, edge+1)},
	} {
		picked(t, c.z, c.want, api.OK)
	}
}

func TestPickIsInIt(t *testing.T) { // P8.3, P8.5
	for _, z := range append(every(3, small()), wide()...) {
		p, e := zone.Pick(z)
		times, f := incl.Pick(laid(z))
		if e != api.OK || f != api.OK || !slices.Equal(times, []api.Rat{p.T, p.U}) {
			t.Fatalf("Pick(%v) = %v, %d, want %v, %d", z, p, e, times, f)
		}
		holds(t, z, p, true, api.OK)
		if !hasExactly(z, p) {
			t.Errorf("Pick(%v) = %v", z, p)
		}
	}
}
