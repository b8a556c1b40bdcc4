package zset_test

import (
	"fmt"
	"slices"
	"testing"

	"rallentando/api"
	"rallentando/sample"
	"rallentando/zset"
)

// made is what a call answers: zones, or the error beside none.
type made struct {
	l []api.Zone
	e api.Errno
}

func or(a, b []api.Zone) made {
	l, e := zset.Or(a, b)
	return made{l, e}
}

func and(a, b []api.Zone) made {
	l, e := zset.And(a, b)
	return made{l, e}
}

func comp(a, b []api.Zone) made {
	l, e := zset.Comp(a, b)
	return made{l, e}
}

func within(l []api.Zone, s api.Span) made {
	l, e := zset.Within(l, s)
	return made{l, e}
}

func window(l []api.Zone, low, high int) made {
	l, e := zset.Window(l, low, high)
	return made{l, e}
}

// tame are zones of small numbers, of which no call comes to an error.
func tame() []api.Zone {
	return slices.Concat(every(41, small()), narrow(), zones(all, box, point, whole, first, second, broad))
}

// back are some in the order from the last one to the first one.
func back(l []api.Zone) []api.Zone {
	l = slices.Clone(l)
	slices.Reverse(l)
	return l
}

// holdsJust fails, unless a call answered zones as they have to be, of just these pairs.
func holdsJust(t *testing.T, name string, got made, want sample.Points, of ...any) {
	t.Helper()
	if got.e != api.OK || pointsOf(got.l...) != want {
		t.Fatalf("%s%v = %v has other points", name, of, got)
	}
	checks(t, got.l, api.OK)
}

func TestPointsOfBoth(t *testing.T) { // P13.2, P13.4, P13.6
	l, count := tame(), map[string]int{}
	for i := range 3000 {
		a, b := picked(l, i, i%4), picked(l, i*3+1, i%5)
		if i%3 == 0 {
			b = append(b, a...)
		}
		of, to := pointsOf(a...), pointsOf(b...)
		holdsJust(t, "Or", or(a, b), of.Or(to), a, b)
		holdsJust(t, "And", and(a, b), of.And(to), a, b)
		// Which come first turns no points.
		holdsJust(t, "Or", or(back(b), back(a)), of.Or(to), b, a)
		holdsJust(t, "And", and(back(a), back(b)), of.And(to), a, b)
		holdsJust(t, "And", and(b, a), of.And(to), b, a)
		there, same := of.But(to) == sample.Points{}, of == to
		areIn(t, a, b, there, api.OK)
		areSame(t, a, b, same, api.OK)
		areSame(t, back(b), a, same, api.OK)
		for name, is := range map[string]bool{"apart": of.And(to) == sample.Points{}, "there": there, "same": same, "not there": !there} {
			if is {
				count[name]++
			}
		}
	}
	if count["apart"] < 100 || count["there"] < 100 || count["same"] < 100 || count["not there"] < 100 {
		t.Error(count, "are too few to tell")
	}
}

func TestPointsOfEach(t *testing.T) { // P13.1, P13.3, P13.6
	l := tame()
	spans := []api.Span{from(0, 0), from(0, 2), above(0, 2), below(0, 2), inside(0, 1), inside(-2, 1), from(-3, -2), on(1), up(-1), on(-2), above(1, 1)}
	windows := [][2]int{{0, 1}, {0, 2}, {1, 2}, {2, 3}, {-1, 1}, {-3, -2}, {-2, 3}}
	for i := range 3000 {
		a, s, w := picked(l, i, i%6), spans[i%len(spans)], windows[i%len(windows)]
		in := sample.PointsThat(func(t, u int) bool { return sample.IsIn(u-t, s) })
		ends := sample.PointsThat(func(t, u int) bool { return u > 4*w[0] && u <= 4*w[1] })
		of := pointsOf(a...)
		holdsJust(t, "Within", within(a, s), of.And(in), a, s)
		holdsJust(t, "Window", window(a, w[0], w[1]), of.And(ends), a, w)
		// Which come first turns no points; and neither does which of both does.
		holdsJust(t, "Within", within(back(a), s), of.And(in), a, s)
		holdsJust(t, "Window", window(back(a), w[0], w[1]), of.And(ends), a, w)
		holdsJust(t, "Window", window(within(a, s).l, w[0], w[1]), of.And(in).And(ends), a, s, w)
		holdsJust(t, "Within", within(window(a, w[0], w[1]).l, s), of.And(in).And(ends), a, s, w)
	}
}

// holdsBetween fails, unless a call answered zones as they have to be, of just those pairs that have a time between.
func holdsBetween(t *testing.T, got made, a, b []api.Zone) (some bool) {
	t.Helper()
	if got.e != api.OK {
		t.Fatalf("Comp(%v, %v) = %v", a, b, got)
	}
	checks(t, got.l, api.OK)
	of, to := sample.Behind(a...), sample.Ahead(b...)
	for i := range of {
		for k := range to {
			is := of[i].Common(to[k])
			if is != slices.ContainsFunc(got.l, func(z api.Zone) bool { return sample.Has(z, i-sample.Outer, k-sample.Outer) }) {
				t.Fatalf("Comp(%v, %v) = %v; %d, %d by quarters: %t", a, b, got, i-sample.Outer, k-sample.Outer, is)
			}
			some = some || is
		}
	}
	return some
}

func TestPointsOfComp(t *testing.T) { // P13.2, P13.6
	l, count := tame(), map[bool]int{}
	for i := range 400 {
		a, b := picked(l, i, i%4), picked(l, i*3+1, i%3+1)
		got := comp(a, b)
		count[holdsBetween(t, got, a, b)]++
		// Which come first turns no points.
		other := comp(back(a), back(b))
		holdsBetween(t, other, a, b)
		areSame(t, got.l, other.l, true, api.OK)
	}
	if count[true] < 50 || count[false] < 50 {
		t.Error(count, "are too few to tell")
	}
}

func TestWhichTwoOfThreeComeFirst(t *testing.T) { // P13.6
	l := append(narrow(), first, second, whole, box)
	for i := range 1000 {
		a, b, c := picked(l, i, i%3+1), picked(l, i*3+1, i%2+1), picked(l, i*7+2, i/2%3+1)
		for _, two := range []func(a, b []api.Zone) made{or, and, comp} {
			one, other := two(two(a, b).l, c), two(a, two(b, c).l)
			if one.e != api.OK || other.e != api.OK {
				t.Fatal(a, b, c, one, other)
			}
			areSame(t, one.l, other.l, true, api.OK)
		}
		// What is in common with one of both, and what one of both composes to, is that of each, together.
		areSame(t, and(a, or(b, c).l).l, or(and(a, b).l, and(a, c).l).l, true, api.OK)
		areSame(t, comp(or(a, b).l, c).l, or(comp(a, c).l, comp(b, c).l).l, true, api.OK)
		areSame(t, comp(a, or(b, c).l).l, or(comp(a, b).l, comp(a, c).l).l, true, api.OK)
	}
}

func TestPointsOneByOne(t *testing.T) { // P13.4, P13.6
	l := tame()
	is := func(l []api.Zone, p api.Point) bool {
		is, e := zset.Has(l, p)
		if e != api.OK {
			t.Fatal(l, p, e)
		}
		return is
	}
	for i := range 30 {
		a, b := picked(l, i, i%4+1), picked(l, i*3+1, i%3+1)
		s, w := from(-1, 1), [2]int{0, 2}
		both, one, near, late, wants := and(a, b).l, or(a, b).l, within(a, s).l, window(a, w[0], w[1]).l, or(a, nil).l
		for t4 := -10; t4 <= 10; t4++ {
			for u4 := -10; u4 <= 10; u4++ {
				p := at(t4, u4)
				ofA, ofB := is(a, p), is(b, p)
				if ofA != slices.ContainsFunc(a, func(z api.Zone) bool { return sample.Has(z, t4, u4) }) || ofA != is(wants, p) {
					t.Fatal(a, p)
				}
				if is(both, p) != (ofA && ofB) || is(one, p) != (ofA || ofB) || is(near, p) != (ofA && sample.IsIn(u4-t4, s)) || is(late, p) != (ofA && u4 > 4*w[0] && u4 <= 4*w[1]) {
					t.Fatal(a, b, p)
				}
			}
		}
	}
}

// lent are some to be handed in: those of which errors are told among them.
func lent() [][]api.Zone {
	return [][]api.Zone{nil, zones(first), zones(first, second), zones(second, whole, first), zones(broad, whole, point, box), zones(point, one(9, 9), box, box), zones(second, api.Zone{}, first), zones(upper, beyond), zones(all, upper), times(50, first), append(times(9, second), first)}
}

// asks is all that is told of two lists, in order.
func asks(a, b []api.Zone) ([]made, string) {
	of, e := zset.Of(a)
	l := []made{{of, e}, or(a, b), and(a, b), comp(a, b), within(a, up(0)), window(a, -1, 9)}
	in, f := zset.In(a, b)
	same, g := zset.Same(a, b)
	has, h := zset.Has(a, pair(1, 2))
	return l, fmt.Sprint(l, zset.Check(a), in, f, same, g, has, h)
}

func TestWhatIsHandedInIsOnlyRead(t *testing.T) { // P13.5
	// With room behind the end, in which something stands.
	room := func(l []api.Zone) []api.Zone { return slices.Concat(l, zones(box, far, api.Zone{}, point)) }
	for _, l := range lent() {
		for _, m := range lent() {
			a, b := room(l), room(m)
			heldA, heldB := slices.Clone(a), slices.Clone(b)
			answers, told := asks(a[:len(l)], b[:len(m)])
			if !slices.Equal(a, heldA) || !slices.Equal(b, heldB) {
				t.Fatalf("of %v, %v: what was handed in is another one", l, m)
			}
			// To change what is answered, up to its end and beyond, changes nothing of it, and nothing that is answered beside it, or behind.
			for i, x := range answers {
				others := fmt.Sprint(slices.Concat(answers[:i], answers[i+1:]))
				sample.Spoil(x.l)
				if !slices.Equal(a, heldA) || !slices.Equal(b, heldB) {
					t.Fatalf("of %v, %v: answer %d shares memory with what was handed in", l, m, i)
				}
				if others != fmt.Sprint(slices.Concat(answers[:i], answers[i+1:])) {
					t.Fatalf("of %v, %v: answer %d shares memory with another one", l, m, i)
				}
			}
			if _, again := asks(a[:len(l)], b[:len(m)]); again != told {
				t.Fatalf("of %v, %v: %s, and then %s", l, m, told, again)
			}
		}
	}
}

func TestWhatIsAnsweredIsNew(t *testing.T) { // P13.5
	for _, l := range lent() {
		for _, m := range lent() {
			a, b := slices.Clone(l), slices.Clone(m)
			answers, told := asks(a, b)
			held := fmt.Sprint(answers)
			// Another call, and a change of what was handed in, turns nothing of it.
			again, _ := asks(a, b)
			sample.Spoil(a)
			sample.Spoil(b)
			for _, x := range again {
				sample.Spoil(x.l)
			}
			asks(a, b)
			if fmt.Sprint(answers) != held {
				t.Fatalf("of %v, %v: %s, and then %v", l, m, told, answers)
			}
		}
	}
	// One list handed in as both.
	l := zones(first, second, whole)
	answers, told := asks(l, l)
	for _, x := range answers {
		sample.Spoil(x.l)
	}
	if _, again := asks(l, l); again != told || !slices.Equal(l, zones(first, second, whole)) {
		t.Fatal(told, again)
	}
}

func TestAnswersHangOnArgumentsAlone(t *testing.T) { // P2
	l := slices.Concat(every(61, small()), every(97, wide()), narrow(), stuff, every(5, wrong()), stuck(), zones(upper, beyond, long))
	held := slices.Clone(l)
	one := func(i int) string {
		n := i * 3 % len(l)
		_, told := asks(l[n:min(n+i%4, len(l))], picked(l, i, i%5))
		return told
	}
	for _, i := range sample.Turned(3*len(l), one) {
		t.Errorf("at %d, and then %s", i, one(i))
	}
	if !slices.Equal(l, held) {
		t.Error("what was handed in is another one")
	}
}
