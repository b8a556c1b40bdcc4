package cover_test

import (
	"fmt"
	"slices"
	"testing"

	"rallentando/api"
	"rallentando/cover"
	"rallentando/sample"
	"rallentando/zone"
)

// grid are pairs of times by quarters, among which each region of zones of small numbers has one.
func grid(reach int) []api.Point {
	var l []api.Point
	for t := -4 * reach; t <= 4*reach; t++ {
		for u := -4 * reach; u <= 4*reach; u++ {
			l = append(l, sample.At(t, u))
		}
	}
	return l
}

// isInOne tells whether a point is in one of some.
func isInOne(p api.Point, l []api.Zone) bool {
	return slices.ContainsFunc(l, func(z api.Zone) bool { is, e := zone.Has(z, p); return is && e == api.OK })
}

func TestPoints(t *testing.T) { // P12.1, P12.5
	l := slices.Concat(every(13, small()), narrow())
	count := map[bool]int{}
	for i := range 6000 {
		some := picked(l, i, i%7)
		z := l[i*5%len(l)]
		// A zone is covered just if no point of it is in none of them.
		lies := sample.PointsOf(z).But(sample.PointsOf(some...)) == sample.Points{}
		isIn(t, z, some, lies, api.OK)
		count[lies]++
		got, e := cover.Prune(some)
		if e != api.OK {
			t.Fatal(some, e)
		}
		if sample.PointsOf(got...) != sample.PointsOf(some...) {
			t.Fatalf("Prune(%v) = %v has other points", some, got)
		}
	}
	if count[true] < 500 || count[false] < 500 {
		t.Error(count, "are too few to tell")
	}
}

func TestPointsOneByOne(t *testing.T) { // P12.5
	l, points := slices.Concat(every(101, small()), narrow()), grid(4)
	for i := range 40 {
		some := picked(l, i, 5)
		got, e := cover.Prune(some)
		if e != api.OK {
			t.Fatal(some, e)
		}
		for _, p := range points {
			if isInOne(p, got) != isInOne(p, some) {
				t.Fatalf("Prune(%v) = %v: %v", some, got, p)
			}
		}
	}
}

func TestAllByPoints(t *testing.T) { // P12.1
	l := slices.Concat(every(29, small()), narrow())
	count := map[bool]int{}
	for i := range 4000 {
		a, b := picked(l, i, i%4+1), picked(l, i*3+1, i%5+2)
		if i%3 == 0 {
			// Those that lie in others are few, where they are none of them.
			b = append(b, a[len(a)-1], a[0])
		}
		lie := sample.PointsOf(a...).But(sample.PointsOf(b...)) == sample.Points{}
		areIn(t, a, b, lie, api.OK)
		count[lie]++
	}
	if count[true] < 500 || count[false] < 500 {
		t.Error(count, "are too few to tell")
	}
}

func TestByTheWords(t *testing.T) { // P12.1, P12.3
	l := slices.Concat(every(41, small()), every(61, wide()), stuff, zones(upper, beyond))
	count := map[api.Errno]int{}
	for i := range 10000 {
		z, some := l[i*7%len(l)], picked(l, i, i%5+1)
		is, e := inByWords(z, some)
		isIn(t, z, some, is, e)
		p, e := witnessByWords(z, some)
		shows(t, z, some, p, e)
		count[e]++
		a := append(zones(some[0], z), picked(l, i+3, 2)...)
		is, e = allByWords(a, some)
		areIn(t, a, some, is, e)
	}
	if count[api.OK] < 1000 || count[api.ErrNone] < 100 || count[api.ErrBad] < 1000 {
		t.Error(count, "are too few to tell")
	}
}

func TestNoneIsCoveredByTheOthers(t *testing.T) { // P12.5
	l := slices.Concat(every(17, small()), every(37, wide()), narrow(), narrow(), stuff)
	count := map[api.Errno]int{}
	for i := range 6000 {
		some := picked(l, i, i%9+1)
		got, e := cover.Prune(some)
		count[e]++
		if e != api.OK {
			continue
		}
		for k, z := range got {
			if !slices.Contains(some, z) {
				t.Fatalf("Prune(%v) = %v: %v is none of them", some, got, z)
			}
			others := slices.Concat(got[:k], got[k+1:])
			if is, e := cover.In(z, others); is {
				t.Fatalf("Prune(%v) = %v: %v is covered by the others, %d", some, got, z, e)
			}
		}
		// Each of both covers the other one, and what is wanted of it is itself, where these are answered.
		if is, e := cover.All(some, got); e == api.OK && !is {
			t.Fatalf("Prune(%v) = %v does not cover all", some, got)
		}
		if is, e := cover.All(got, some); e == api.OK && !is {
			t.Fatalf("Prune(%v) = %v is more", some, got)
		}
		if again, e := cover.Prune(got); e == api.OK && !slices.Equal(again, got) {
			t.Fatalf("Prune(%v) = %v, of which %v", some, got, again)
		}
		orderTurnsNothing(t, some, got)
	}
	if count[api.OK] < 1000 || count[api.ErrBad] < 500 {
		t.Error(count, "are too few to tell")
	}
}

// orderTurnsNothing fails, unless the same is wanted of some that stand the other way round, by turns, or more than once.
func orderTurnsNothing(t *testing.T, l, want []api.Zone) {
	t.Helper()
	back := slices.Clone(l)
	slices.Reverse(back)
	wants(t, back, want, api.OK)
	wants(t, append(slices.Clone(l[len(l)/2:]), l[:len(l)/2]...), want, api.OK)
	wants(t, slices.Concat(l, back, l[:1]), want, api.OK)
}

func TestErrorsHangOnNoOrder(t *testing.T) { // P12.5
	l := slices.Concat(every(17, wide()), stuff, zones(upper, beyond))
	bad := 0
	for i := range 2000 {
		some := picked(l, i, i%4+2)
		if _, e := cover.Prune(some); e == api.ErrBad {
			back := slices.Clone(some)
			slices.Reverse(back)
			wants(t, back, nil, api.ErrBad)
			wants(t, slices.Concat(back, some), nil, api.ErrBad)
			bad++
		}
	}
	if bad < 500 {
		t.Error(bad, "are too few to tell")
	}
}

func TestWitnessIsInNoneOfTheOthers(t *testing.T) { // P12.5
	l := slices.Concat(every(41, small()), every(61, wide()), narrow(), stuff)
	count := map[api.Errno]int{}
	for i := range 10000 {
		z, some := l[i*7%len(l)], picked(l, i, i%6)
		p, e := cover.Witness(z, some)
		count[e]++
		if e == api.OK && (!isInOne(p, zones(z)) || isInOne(p, some)) {
			t.Fatalf("Witness(%v, %v) = %v", z, some, p)
		}
		if is, other := cover.In(z, some); is != (e == api.ErrNone) || e != api.ErrNone && e != other {
			t.Fatalf("Witness(%v, %v) tells %d, and In %t, %d", z, some, e, is, other)
		}
	}
	if count[api.OK] < 1000 || count[api.ErrNone] < 300 || count[api.ErrBad] < 300 {
		t.Error(count, "are too few to tell")
	}
}

// lists are some to be handed in: those of which errors are told among them.
func lists() [][]api.Zone {
	return [][]api.Zone{nil, zones(first), zones(first, second), zones(second, whole, first), zones(broad, whole, point, box), zones(point, one(9, 9), box, box), zones(second, api.Zone{}, first), zones(upper, beyond), zones(all, upper), times(50, first), append(times(9, second), first)}
}

func TestWhatIsHandedInIsOnlyRead(t *testing.T) { // P12.4
	// With room behind the end, in which something stands.
	room := func(l []api.Zone) []api.Zone { return slices.Concat(l, zones(box, far, api.Zone{}, point)) }
	for _, l := range lists() {
		a := room(l)
		held := slices.Clone(a)
		for _, m := range lists() {
			b := room(m)
			also := slices.Clone(b)
			for _, z := range zones(whole, all, upper, api.Zone{}) {
				cover.In(z, a[:len(l)])
				cover.Witness(z, b[:len(m)])
			}
			cover.All(a[:len(l)], b[:len(m)])
			if !slices.Equal(a, held) || !slices.Equal(b, also) {
				t.Fatalf("of %v, %v: what was handed in is another one", l, m)
			}
		}
		got, e := cover.Prune(a[:len(l)])
		if !slices.Equal(a, held) {
			t.Fatalf("of %v: what was handed in is another one", l)
		}
		// To change what is answered, up to its end and beyond, changes nothing of it, and nothing that is answered behind it.
		kept := slices.Clone(got)
		sample.Spoil(got)
		if !slices.Equal(a, held) {
			t.Fatalf("of %v: what is answered shares memory with what was handed in", l)
		}
		wants(t, a[:len(l)], kept, e)
	}
}

func TestWhatIsAnsweredIsNew(t *testing.T) { // P12.4
	for _, l := range [][]api.Zone{zones(first), zones(first, first), zones(first, second), zones(second, whole, first), zones(broad), zones(box, point, one(9, 9)), every(53, narrow())} {
		one, e := cover.Prune(l)
		other, f := cover.Prune(l)
		held, asked := slices.Clone(other), slices.Clone(l)
		if e != api.OK || f != api.OK || len(one) == 0 || !slices.Equal(one, other) {
			t.Fatal(one, e, other, f)
		}
		sample.Spoil(one)
		if !slices.Equal(other, held) {
			t.Fatal("what was answered ahead turns", other)
		}
		// A change of what was handed in turns nothing of it, either.
		sample.Spoil(l)
		if !slices.Equal(other, held) {
			t.Fatal("what was handed in turns", other)
		}
		copy(l, asked)
		wants(t, l, held, api.OK)
	}
}

func TestAnswersHangOnArgumentsAlone(t *testing.T) { // P2
	l := slices.Concat(every(61, small()), every(97, wide()), narrow(), stuff, every(5, wrong()))
	held := slices.Clone(l)
	one := func(i int) string {
		z, n := l[i*7%len(l)], i*3%len(l)
		a, b := l[n:min(n+i%4, len(l))], picked(l, i, i%5)
		is, e := cover.In(z, a)
		are, f := cover.All(a, b)
		got, g := cover.Prune(b)
		p, h := cover.Witness(z, b)
		return fmt.Sprint(is, e, are, f, got, g, p, h)
	}
	for _, i := range sample.Turned(3*len(l), one) {
		t.Errorf("at %d, and then %s", i, one(i))
	}
	if !slices.Equal(l, held) {
		t.Error("what was handed in is another one")
	}
}
