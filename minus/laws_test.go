package minus_test

import (
	"fmt"
	"slices"
	"testing"

	"rallentando/api"
	"rallentando/minus"
	"rallentando/sample"
	"rallentando/zone"
)

// partsJust fails, unless zones that are answered may be, have at least a pair each, none twice, and all together just those that are said.
func partsJust(t *testing.T, l []api.Zone, e api.Errno, said sample.Points, of ...any) {
	t.Helper()
	if e != api.OK {
		t.Fatal(of, e)
	}
	var so sample.Points
	for _, z := range l {
		p := sample.PointsOf(z)
		if zone.Check(z) != api.OK || p == (sample.Points{}) || p.And(so) != (sample.Points{}) {
			t.Fatalf("of %v: %v, among %v", of, z, l)
		}
		so = so.Or(p)
	}
	if so != said {
		t.Fatalf("of %v: %v has other points", of, l)
	}
}

func TestPointsOfMinus(t *testing.T) { // P11.3
	l := append(every(97, small()), all, box, point, whole, part, broad)
	var has []sample.Points
	for _, z := range l {
		has = append(has, sample.PointsOf(z))
	}
	count := map[string]int{}
	for i, a := range l {
		for j, b := range l {
			left, e := minus.Minus(a, b)
			partsJust(t, left, e, has[i].But(has[j]), a, b)
			switch both := has[i].And(has[j]); {
			case both == sample.Points{}:
				count["apart"]++
			case both == has[i]:
				count["within"]++
			default:
				count["some"]++
			}
		}
	}
	if count["apart"] < 500 || count["within"] < 500 || count["some"] < 500 {
		t.Error(count, "are too few to tell")
	}
}

func TestPointsOfLeft(t *testing.T) { // P11.3
	l := append(every(41, small()), all, box, point, whole, part, broad, first, second)
	some, nothing := 0, 0
	for i := range 6 * len(l) {
		a, by := l[i*5%len(l)], []api.Zone{}
		said := sample.PointsOf(a)
		for k := range i%4 + 1 {
			b := l[(i*i+k*67+i/7)%len(l)]
			by = append(by, b)
			said = said.But(sample.PointsOf(b))
		}
		left, e := minus.Left(a, by)
		partsJust(t, left, e, said, a, by)
		// The other way round there are the same points.
		slices.Reverse(by)
		left, e = minus.Left(a, by)
		partsJust(t, left, e, said, a, by)
		if len(left) == 0 {
			nothing++
		} else {
			some++
		}
	}
	if some < 100 || nothing < 100 {
		t.Errorf("%d of which something is left, and %d of which nothing is, are too few to tell", some, nothing)
	}
}

func TestLeftByTheWords(t *testing.T) { // P11.1
	l := slices.Concat(every(41, small()), every(61, wide()), stuff, zones(part, broad, upper, lower))
	count := map[api.Errno]int{}
	for i := range 40 * len(l) {
		var by []api.Zone
		for k := range i%5 + 1 {
			by = append(by, l[(i*i+k*k*67+i/11)%len(l)])
		}
		a := l[i*7%len(l)]
		want, e := leftByWords(a, by)
		leaves(t, a, by, want, e)
		count[e]++
	}
	if count[api.OK] < 1000 || count[api.ErrBad] < 1000 {
		t.Error(count, "are too few to tell")
	}
}

func TestHowZonesLie(t *testing.T) { // P11.3
	l := slices.Concat(every(61, small()), every(43, wide()), stuff)
	within, apart := 0, 0
	for _, a := range l {
		for _, b := range l {
			left, e := minus.Minus(a, b)
			if e == api.ErrBad {
				continue
			}
			// One by which nothing is left is one in which it lies.
			if lies, _ := zone.In(a, b); lies != (len(left) == 0) {
				t.Fatalf("Minus(%v, %v) = %v", a, b, left)
			} else if lies {
				within++
			}
			// By one that shares no point all of its points are left: so nothing of them is, when these are taken.
			_, shared := zone.Meet(a, b)
			if rest, e := minus.Left(a, left); shared == api.ErrNone && e == api.OK {
				if len(rest) > 0 {
					t.Fatalf("Minus(%v, %v) = %v, without %v", a, b, left, rest)
				}
				apart++
			}
			for i, z := range left {
				if is, e := zone.In(z, a); !is || e != api.OK {
					t.Fatalf("Minus(%v, %v) = %v: %v is not in the first one", a, b, left, z)
				}
				for _, other := range append(zones(b), left[:i]...) {
					if _, e := zone.Meet(z, other); e != api.ErrNone {
						t.Fatalf("Minus(%v, %v) = %v: %v shares a point with %v", a, b, left, z, other)
					}
				}
			}
		}
	}
	if within < 1000 || apart < 1000 {
		t.Errorf("%d that lie in one, and %d that are apart from one, are too few to tell", within, apart)
	}
}

func TestLeftIsMinusOneByOne(t *testing.T) { // P11.1
	l := append(every(173, small()), stuff...)
	for i, a := range l {
		for j, b := range l {
			c := l[(i*3+j*5)%len(l)]
			var want []api.Zone
			left, wanted := minus.Minus(a, b)
			for _, z := range left {
				more, e := minus.Minus(z, c)
				want, wanted = append(want, more...), max(wanted, e)
			}
			leaves(t, a, zones(b, c), want, wanted)
		}
	}
}

func TestWhatIsHandedInIsOnlyRead(t *testing.T) { // P11.2
	for _, l := range [][]api.Zone{nil, zones(part), zones(first, second), zones(part, far, point), zones(part, api.Zone{}, first), zones(all, part), zones(put(all, 4, most(1)), part), slices.Repeat(zones(part), 50)} {
		for _, a := range zones(whole, all, upper, api.Zone{}) {
			// With room behind the end, in which something stands.
			room := slices.Concat(l, zones(box, far, api.Zone{}, point))
			held := slices.Clone(room)
			first, e := minus.Left(a, room[:len(l)])
			if !slices.Equal(room, held) {
				t.Fatalf("of %v, %v: what was handed in is another one", a, l)
			}
			// To change what is answered, up to its end and beyond, changes nothing of it, and nothing that is answered behind it.
			kept := slices.Clone(first)
			sample.Spoil(first)
			if !slices.Equal(room, held) {
				t.Fatalf("of %v, %v: what is answered shares memory with what was handed in", a, l)
			}
			leaves(t, a, room[:len(l)], kept, e)
		}
	}
}

func TestWhatIsAnsweredIsNew(t *testing.T) { // P11.2
	hole := square(from(1, 2), from(1, 2))
	for _, answer := range []func() []api.Zone{
		func() []api.Zone { l, _ := minus.Minus(broad, hole); return l },
		func() []api.Zone { l, _ := minus.Minus(broad, far); return l },
		func() []api.Zone { l, _ := minus.Left(broad, nil); return l },
		func() []api.Zone { l, _ := minus.Left(broad, zones(far)); return l },
		func() []api.Zone { l, _ := minus.Left(broad, zones(hole, one(3, 3), hole)); return l },
	} {
		one, other := answer(), answer()
		held := slices.Clone(other)
		if len(one) == 0 || !slices.Equal(one, other) {
			t.Fatal(one, other)
		}
		sample.Spoil(one)
		if third := answer(); !slices.Equal(other, held) || !slices.Equal(third, held) {
			t.Fatal("what was answered ahead turns", other, third)
		}
	}
}

func TestAnswersHangOnArgumentsAlone(t *testing.T) { // P2
	l := slices.Concat(every(61, small()), every(97, wide()), stuff, wrong())
	held := slices.Clone(l)
	one := func(i int) string {
		a, b := l[i*7%len(l)], l[i*11%len(l)]
		less, e := minus.Minus(a, b)
		n := i * 3 % len(l)
		left, f := minus.Left(a, l[n:min(n+i%4, len(l))])
		return fmt.Sprint(less, e, left, f)
	}
	for _, i := range sample.Turned(3*len(l), one) {
		t.Errorf("at %d, and then %s", i, one(i))
	}
	if !slices.Equal(l, held) {
		t.Error("what was handed in is another one")
	}
}
