package comp_test

import (
	"slices"
	"testing"

	"rallentando/api"
	"rallentando/comp"
	"rallentando/sample"
	"rallentando/zone"
)

// outer is how far times by quarters go, that pairs with a time between are tried with.
const outer = sample.Outer

func TestPairsOfComp(t *testing.T) { // P9.1, P9.4
	count := map[bool]int{}
	l := append(every(61, small()), all, box, point)
	for _, a := range l {
		of := behind(a)
		for _, b := range l {
			to := ahead(b)
			z, e := comp.Comp(a, b)
			if e != api.OK && e != api.ErrNone {
				t.Fatalf("Comp(%v, %v) = %v, %d", a, b, z, e)
			}
			found := false
			for i := range of {
				for k := range to {
					is := of[i].Common(to[k])
					found = found || is
					if is != (e == api.OK && has(z, i-outer, k-outer)) {
						t.Fatalf("Comp(%v, %v) = %v, %d; %d, %d by quarters: %t", a, b, z, e, i-outer, k-outer, is)
					}
				}
			}
			if found != (e == api.OK) {
				t.Fatalf("Comp(%v, %v) = %v, %d; some pair: %t", a, b, z, e, found)
			}
			count[found]++
		}
	}
	if count[true] < 1000 || count[false] < 1000 {
		t.Error(count, "are too few to tell")
	}
}

func TestPairsOfBackAndFirsts(t *testing.T) { // P9.1, P9.2, P9.4
	for _, z := range append(every(13, small()), all, box, point) {
		turned, e := comp.Back(z)
		if e != api.OK {
			t.Fatalf("Back(%v): %d", z, e)
		}
		s, e := comp.Firsts(z)
		seconds := behind(z)
		for i, l := range seconds {
			// None is left out at the low end: that there is no least one is told otherwise.
			if is := l != (sample.Times{}); e == api.OK && is != isIn(i-outer, s) {
				t.Fatalf("Firsts(%v) = %v; %d by quarters: %t", z, s, i-outer, is)
			}
			for k := range seconds {
				at, to := i-outer, k-outer
				if has(turned, to, at) != has(z, at, to) {
					t.Fatalf("Back(%v) = %v; %d, %d by quarters", z, turned, at, to)
				}
			}
		}
		if lowest := seconds[0] != (sample.Times{}); e == api.ErrNone != lowest {
			t.Fatalf("Firsts(%v) = %v, %d; so low: %t", z, s, e, lowest)
		}
	}
}

// pair is what two zones compose to, or the error beside none.
type pair struct {
	z api.Zone
	e api.Errno
}

// pairs are what each two of some zones compose to.
func pairs(l []api.Zone) [][]pair {
	var all [][]pair
	for _, a := range l {
		var row []pair
		for _, b := range l {
			z, e := comp.Comp(a, b)
			row = append(row, pair{z, e})
		}
		all = append(all, row)
	}
	return all
}

// then is what one that came composes to with another one, ahead of it or behind it: with none it is none.
func then(a, b pair) pair {
	switch {
	case a.e == api.ErrBad || b.e == api.ErrBad:
		return pair{e: api.ErrBad}
	case a.e == api.ErrNone || b.e == api.ErrNone:
		return pair{e: api.ErrNone}
	}
	z, e := comp.Comp(a.z, b.z)
	return pair{z, e}
}

// lists are small zones, and those with numbers at the edges, some of which compose to none and to ones that may not be.
func lists() [][]api.Zone {
	return [][]api.Zone{append(every(163, small()), all, box, point), append(every(67, wide()), all, far)}
}

func TestWhichAreComposedFirst(t *testing.T) { // P9.4
	count := map[api.Errno]int{}
	for _, l := range lists() {
		two := pairs(l)
		for i, a := range l {
			for k := range l {
				for m, c := range l {
					left, right := then(two[i][k], pair{z: c}), then(pair{z: a}, two[k][m])
					// With numbers beyond all bounds on the way there is nothing to go on with.
					if two[i][k].e == api.ErrBad || two[k][m].e == api.ErrBad {
						continue
					}
					if left != right {
						t.Fatalf("of %v, %v, %v: %v, %v", a, l[k], c, left, right)
					}
					count[left.e]++
				}
			}
		}
	}
	if count[api.OK] < 1000 || count[api.ErrNone] < 1000 || count[api.ErrBad] < 1000 {
		t.Error(count, "are too few to tell")
	}
}

func TestTheOtherWayRound(t *testing.T) { // P9.4
	for _, z := range append(small(), wide()...) {
		turned, _ := comp.Back(z)
		turns(t, turned, z, api.OK)
	}
	for _, l := range lists() {
		for _, a := range l {
			for _, b := range l {
				turnedA, _ := comp.Back(a)
				turnedB, _ := comp.Back(b)
				want, e := comp.Comp(a, b)
				if e == api.OK {
					want, e = comp.Back(want)
				}
				comes(t, turnedB, turnedA, want, e)
			}
		}
	}
}

func TestLesserOnes(t *testing.T) { // P9.4
	lesser, none := 0, 0
	for _, l := range lists() {
		two := pairs(l)
		for i, a := range l {
			for k, b := range l {
				if is, e := zone.In(a, b); !is || e != api.OK || i == k {
					continue
				}
				for m := range l {
					for _, p := range [][2]pair{{two[i][m], two[k][m]}, {two[m][i], two[m][k]}} {
						few, more := p[0], p[1]
						switch {
						case more.e == api.ErrNone && few.e != api.ErrNone:
							t.Fatalf("%v is in %v, and composes to %v with %v, that one to none", a, b, few, l[m])
						case few.e == api.ErrNone:
							none++
						case few.e == api.OK && more.e == api.OK:
							if is, e := zone.In(few.z, more.z); !is || e != api.OK {
								t.Fatalf("%v is in %v, and composes to %v with %v, that one to %v", a, b, few, l[m], more)
							}
							lesser++
						}
					}
				}
			}
		}
	}
	if lesser < 1000 || none < 1000 {
		t.Errorf("%d lesser ones, and %d none, are too few to tell", lesser, none)
	}
}

// answers are all that is said of two zones.
type answers struct {
	composed, turned pair
	s                api.Span
	e                api.Errno
}

func ask(a, b api.Zone) answers {
	var x answers
	x.composed.z, x.composed.e = comp.Comp(a, b)
	x.turned.z, x.turned.e = comp.Back(a)
	x.s, x.e = comp.Firsts(a)
	return x
}

func TestAnswersHangOnArgumentsAlone(t *testing.T) { // P9.3, P2
	l := slices.Concat(every(29, small()), every(29, wide()), wrong())
	held := slices.Clone(l)
	one := func(i int) answers { return ask(l[i], l[(i*7+1)%len(l)]) }
	for _, i := range sample.Turned(len(l), one) {
		t.Errorf("of %v, and then %v", l[i], one(i))
	}
	if !slices.Equal(l, held) {
		t.Error("what was handed in is another one")
	}
}
