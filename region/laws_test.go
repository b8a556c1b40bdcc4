package region_test

import (
	"fmt"
	"slices"
	"testing"

	"rallentando/api"
	"rallentando/region"
	"rallentando/sample"
	"rallentando/zset"
)

// list are the regions of zones, which may be.
func list(t *testing.T, l []api.Zone, long int) []int {
	t.Helper()
	a, e := region.List(l, long)
	if e != api.OK {
		t.Fatalf("List(%v, %d): %d", few(l), long, e)
	}
	return a
}

// sure are zones that a call of zset answered.
func sure(t *testing.T) func(l []api.Zone, e api.Errno) []api.Zone {
	return func(l []api.Zone, e api.Errno) []api.Zone {
		t.Helper()
		if e != api.OK {
			t.Fatal(e)
		}
		return l
	}
}

// either are the numbers that are in one of two lists, rising, each once.
func either(a, b []int) []int {
	return slices.Compact(slices.Sorted(slices.Values(slices.Concat(a, b))))
}

// shared are the numbers that are in both.
func shared(a, b []int) []int {
	return slices.DeleteFunc(slices.Clone(a), func(n int) bool { return !slices.Contains(b, n) })
}

func TestAZoneHasAllOfARegionOrNone(t *testing.T) { // P14.4
	const long = 3
	some, none := 0, 0
	for _, z := range slices.Concat(sample.Every(17, sample.SmallZones()), sample.NarrowZones(), sample.Every(23, sample.WideZones()), zones(all, box, single, far)) {
		marked := make([]bool, many(long))
		for _, n := range list(t, zones(z), long) {
			marked[n] = true
		}
		pairs(twelve, long, func(t1, u1 int) {
			if sample.HasBy(twelve, z, t1, u1) != marked[numbered(twelve, t1, u1, long)] {
				t.Fatalf("%d, %d by twelfths: %t in %v, %t in a region of it", t1, u1, sample.HasBy(twelve, z, t1, u1), z, !sample.HasBy(twelve, z, t1, u1))
			}
			if sample.HasBy(twelve, z, t1, u1) {
				some++
			} else {
				none++
			}
		})
	}
	if some < 10000 || none < 10000 {
		t.Error(some, none, "are too few to tell")
	}
}

func TestAPairIsInSetsJustIfItsRegionIs(t *testing.T) { // P14.4
	const long = 2
	for i := range 40 {
		l := sample.Picked(sample.NarrowZones(), i, i%4)
		a := list(t, l, long)
		pairs(twelve, long, func(t1, u1 int) {
			n, _ := region.Number(at(t1, u1), long)
			is, e := zset.Has(l, at(t1, u1))
			if e != api.OK || is != slices.Contains(a, n) {
				t.Fatalf("%d, %d by twelfths: %t in %v", t1, u1, is, l)
			}
		})
	}
}

// forward are zones all of whose pairs have t below u.
func forward() []api.Zone {
	var l []api.Zone
	for _, z := range slices.Concat(sample.Every(19, sample.SmallZones()), sample.NarrowZones(), zones(all, box, single, square(from(0, 4), from(0, 4)), square(from(-1, 2), from(1, 9)), over(on(-3), on(-2), inside(0, 2)), over(on(0), on(1), from(1, 2)))) {
		if ahead, e := sample.Met(z, differing(up(0))); e == api.OK {
			l = append(l, ahead)
		}
	}
	return l
}

func TestRegionsOfWhatSetsComeTo(t *testing.T) { // P14.4
	zset1, l := sure(t), forward()
	spans := []api.Span{from(0, 1), from(1, 1), above(0, 2), inside(0, 1), inside(1, 3), on(1), up(2), above(1, 1), from(-2, 2), from(3, 9), below(1, 3), up(-1)}
	windows := [][2]int{{0, 1}, {0, 2}, {1, 2}, {2, 3}, {-1, 1}, {-3, -2}, {2, 9}, {-9, 99}, {3, 4}}
	count := map[string]int{}
	for i := range 1500 {
		long := 1 + i%4
		if i%50 == 0 {
			long = top - i/50%3
		}
		a, b := sample.Picked(l, i, i%4), sample.Picked(l, i*3+1, i%3+i/5%2)
		ofA, ofB := list(t, a, long), list(t, b, long)
		s, w := spans[i%len(spans)], windows[i%len(windows)]
		lists(t, zset1(zset.Or(a, b)), long, either(ofA, ofB), api.OK)
		lists(t, zset1(zset.And(a, b)), long, shared(ofA, ofB), api.OK)
		behind := list(t, zset1(zset.Comp(a, b)), long)
		comes(t, ofA, ofB, long, behind, api.OK)
		near, late := list(t, zset1(zset.Within(a, s)), long), list(t, zset1(zset.Window(a, w[0], w[1])), long)
		cuts(t, ofA, s, long, near, api.OK)
		opens(t, ofA, w[0], w[1], long, late, api.OK)
		for name, some := range map[string][]int{"And": shared(ofA, ofB), "Comp": behind, "Within": near, "Window": late} {
			if len(some) > 0 {
				count[name]++
			}
		}
	}
	if len(count) < 4 || count["And"] < 100 || count["Comp"] < 100 || count["Within"] < 100 || count["Window"] < 100 {
		t.Error(count, "are too few to tell")
	}
}

func TestAPairIsComposedJustIfThereIsATimeBetween(t *testing.T) { // P14.2, P14.4
	const finer = 2 * twelve
	count := map[bool]int{}
	for long := 1; long <= 3; long++ {
		for i := range 12 {
			a, b := share(regions(long), i, i%3+1), share(regions(long), i*5+2, i%2+2)
			behind, e := region.Comp(a, b, long)
			if e != api.OK {
				t.Fatal(e)
			}
			pairs(twelve, long, func(t1, u1 int) {
				is := false
				for s := 2*t1 + 1; s < 2*u1 && !is; s++ {
					is = slices.Contains(a, numbered(finer, 2*t1, s, long)) && slices.Contains(b, numbered(finer, s, 2*u1, long))
				}
				if is != slices.Contains(behind, numbered(twelve, t1, u1, long)) {
					t.Fatalf("Comp(%v, %v, %d) = %v; %d, %d by twelfths: %t", a, b, long, behind, t1, u1, is)
				}
				count[is]++
			})
		}
	}
	if count[true] < 1000 || count[false] < 1000 {
		t.Error(count, "are too few to tell")
	}
}

func TestPartsOfWhatIsComposedAndCut(t *testing.T) { // P14.4
	comp := func(a, b []int, long int) []int {
		l, e := region.Comp(a, b, long)
		if e != api.OK {
			t.Fatal(a, b, long, e)
		}
		return l
	}
	for i := range 60 {
		long := 1 + i%5
		l := regions(long)
		a, b, c := share(l, i, i%5+1), share(l, i*3+1, i%4+1), share(l, i*7+2, i%3+1)
		// Which two of three are composed first turns nothing; and both parts of one come to what it comes to.
		comes(t, comp(a, b, long), c, long, comp(a, comp(b, c, long), long), api.OK)
		comes(t, either(a, b), c, long, either(comp(a, c, long), comp(b, c, long)), api.OK)
		comes(t, a, either(b, c), long, either(comp(a, b, long), comp(a, c, long)), api.OK)
		s, low, high := from(i%3, i%3+i%2), i%4-1, i%4+i%3
		near, e := region.Within(a, s, long)
		late, f := region.Window(a, low, high, long)
		if e != api.OK || f != api.OK {
			t.Fatal(e, f)
		}
		cuts(t, either(a, b), s, long, either(near, spaced(b, s, long)), api.OK)
		cuts(t, late, s, long, shared(near, late), api.OK)
		opens(t, near, low, high, long, shared(near, late), api.OK)
		// One window behind the other shares nothing with it, and both have what the one of both has.
		more, e := region.Window(a, high, high+2, long)
		if e != api.OK || len(shared(late, more)) > 0 {
			t.Fatal(late, more, e)
		}
		opens(t, a, low, high+2, long, either(late, more), api.OK)
	}
}

// asks is all that is told of zones and of two lists of regions, in order.
func asks(l []api.Zone, a, b []int, long int) ([][]int, string) {
	of, e := region.List(l, long)
	behind, f := region.Comp(a, b, long)
	near, g := region.Within(a, from(0, 1), long)
	late, h := region.Window(a, 0, 1, long)
	answers := [][]int{of, behind, near, late}
	n := len(a) + 31*len(b)
	p, i := region.Point(n, long)
	z, j := region.Zone(n, long)
	m, k := region.Number(p, long)
	return answers, fmt.Sprint(answers, e, f, g, h, p, i, z, j, m, k)
}

// lent are some of both kinds to be handed in: those of which errors are told among them.
func lent(long int) ([][]api.Zone, [][]int) {
	l := regions(long)
	return [][]api.Zone{nil, zones(all), zones(box, single), zones(single, far, box), zones(box, api.Zone{})}, [][]int{nil, l, l[:1], share(l, 1, 3), share(l, 2, 4), {l[1], l[0]}, {l[0], -1}}
}

// spoil changes numbers, and what room there is behind them.
func spoil(l []int) {
	l = l[:cap(l)]
	for i := range l {
		l[i] = -77
	}
}

func TestWhatIsHandedInIsOnlyRead(t *testing.T) { // P14.3
	for _, long := range []int{1, 2, 5} {
		lists, regions := lent(long)
		for i, l := range lists {
			for k, m := range regions {
				// With room behind the end, in which something stands.
				n := regions[(i+k)%len(regions)]
				z, a, b := slices.Concat(l, zones(box, far, api.Zone{})), slices.Concat(m, ints(4, -1, 7, great)), slices.Concat(n, ints(-3, 4, 4))
				heldZ, heldA, heldB := slices.Clone(z), slices.Clone(a), slices.Clone(b)
				same := func() bool { return slices.Equal(z, heldZ) && slices.Equal(a, heldA) && slices.Equal(b, heldB) }
				answers, told := asks(z[:len(l)], a[:len(m)], b[:len(n)], long)
				if !same() {
					t.Fatalf("of %v, %v, %v: what was handed in is another one", l, m, n)
				}
				// To change what is answered, up to its end and beyond, changes nothing of it, and nothing that is answered beside it, or behind.
				for i, x := range answers {
					others := fmt.Sprint(slices.Concat(answers[:i], answers[i+1:]))
					spoil(x)
					if !same() {
						t.Fatalf("of %v, %v, %v: answer %d shares memory with what was handed in", l, m, n, i)
					}
					if others != fmt.Sprint(slices.Concat(answers[:i], answers[i+1:])) {
						t.Fatalf("of %v, %v, %v: answer %d shares memory with another one", l, m, n, i)
					}
				}
				if _, again := asks(z[:len(l)], a[:len(m)], b[:len(n)], long); again != told {
					t.Fatalf("of %v, %v, %v: %s, and then %s", l, m, n, told, again)
				}
			}
		}
	}
}

func TestWhatIsAnsweredIsNew(t *testing.T) { // P14.3
	for _, long := range []int{1, 2, 5} {
		lists, regions := lent(long)
		for i, l := range lists {
			for k, m := range regions {
				z, a, b := slices.Clone(l), slices.Clone(m), slices.Clone(regions[(i+k)%len(regions)])
				answers, told := asks(z, a, b, long)
				held := fmt.Sprint(answers)
				// Another call, and a change of what was handed in, turns nothing of it.
				again, _ := asks(z, a, b, long)
				sample.Spoil(z)
				for _, x := range append(again, a, b) {
					spoil(x)
				}
				asks(z, a, b, long)
				if fmt.Sprint(answers) != held {
					t.Fatalf("of %v, %v: %s, and then %v", l, m, told, answers)
				}
			}
		}
	}
	// One list handed in as both.
	l := regions(3)
	got, e := region.Comp(l, l, 3)
	spoil(got)
	if e != api.OK || !slices.Equal(l, regions(3)) {
		t.Error(l)
	}
	comes(t, l, l, 3, l, api.OK)
}

func TestAnswersHangOnArgumentsAlone(t *testing.T) { // P2, P14.2
	some := slices.Concat(sample.Every(61, sample.SmallZones()), sample.NarrowZones(), sample.Every(97, sample.WideZones()), sample.Every(9, sample.BadZones()))
	one := func(i int) string {
		long := 1 + i%6
		l := regions(long)
		_, told := asks(sample.Picked(some, i, i%4), share(l, i, i%7), share(l, i*3+1, i%5+1), long)
		return told
	}
	for _, i := range sample.Turned(400, one) {
		t.Errorf("at %d, and then %s", i, one(i))
	}
	// A map is gone through in another order each time: what comes of one is rising all the same.
	for _, long := range []int{2, 7, top} {
		l := regions(long)
		a, b := share(l, 3, 4), share(l, 8, 3)
		want, e := region.Comp(a, b, long)
		if e != api.OK || !slices.IsSorted(want) || len(slices.Compact(slices.Clone(want))) != len(want) {
			t.Fatal(want, e)
		}
		for range 20 {
			comes(t, a, b, long, want, api.OK)
		}
	}
}
