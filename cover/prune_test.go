package cover_test

import (
	"slices"
	"testing"

	"rallentando/api"
	"rallentando/cover"
	"rallentando/sample"
	"rallentando/zone"
)

// inAnyOrder fails, unless just these are wanted of some, in whatever order these stand, and however often.
func inAnyOrder(t *testing.T, l, want []api.Zone) {
	t.Helper()
	orders(l, func(l []api.Zone) {
		t.Helper()
		wants(t, l, want, api.OK)
	})
	wants(t, slices.Concat(l, l), want, api.OK)
	wants(t, slices.Concat(l, want, l, want), want, api.OK)
	wants(t, want, want, api.OK)
}

// stands fails, unless a zone stands there in the order of some, once each.
func stands(t *testing.T, z api.Zone, l []api.Zone, at int) {
	t.Helper()
	ordered := slices.Clone(l)
	slices.SortFunc(ordered, zone.Cmp)
	if ordered[at] != z {
		t.Fatalf("%v stands elsewhere than at %d in %v", z, at, ordered)
	}
}

func TestPruneNoneAndOne(t *testing.T) { // P12.2
	wants(t, nil, nil, api.OK)
	wants(t, zones(), nil, api.OK)
	for _, z := range slices.Concat(every(7, small()), every(7, wide()), stuff) {
		wants(t, zones(z), zones(z), api.OK)
		wants(t, zones(z, z), zones(z), api.OK)
		wants(t, times(5, z), zones(z), api.OK)
	}
	inAnyOrder(t, zones(whole, whole, first, whole), zones(whole))
	inAnyOrder(t, zones(first, second, first, second), zones(first, second))
}

func TestPruneOneThatLiesInAnotherOne(t *testing.T) { // P12.2
	inAnyOrder(t, zones(whole, broad), zones(broad))
	inAnyOrder(t, zones(first, whole), zones(whole))
	inAnyOrder(t, zones(second, whole), zones(whole))
	inAnyOrder(t, zones(point, first, whole, broad), zones(broad))
	inAnyOrder(t, zones(square(below(0, 4), from(0, 4)), broad), zones(broad))
	inAnyOrder(t, zones(one(0, 0), one(4, 4), broad, one(5, 5)), zones(broad, one(5, 5)))
	inAnyOrder(t, zones(point, all, far, upper), zones(all))
	// Each of two in one of their own.
	inAnyOrder(t, zones(one(1, 1), square(from(0, 2), from(0, 2)), one(7, 7), square(from(6, 8), from(6, 8))), zones(square(from(0, 2), from(0, 2)), square(from(6, 8), from(6, 8))))
	// Two that share pairs, and do not lie in one another.
	inAnyOrder(t, zones(square(from(0, 2), from(0, 4)), square(from(1, 3), from(0, 4))), zones(square(from(0, 2), from(0, 4)), square(from(1, 3), from(0, 4))))
	inAnyOrder(t, zones(square(from(0, 4), from(1, 2)), square(from(1, 2), from(0, 4))), zones(square(from(1, 2), from(0, 4)), square(from(0, 4), from(1, 2))))
}

func TestPruneOneThatTwoCoverTogether(t *testing.T) { // P12.2
	side := from(0, 4)
	for _, c := range []struct {
		z, a, b api.Zone
		at      int
	}{
		{square(from(0, 2), side), square(from(0, 3), from(0, 2)), square(from(0, 3), from(2, 4)), 0},
		{square(side, from(0, 2)), square(from(0, 2), from(0, 3)), square(from(2, 4), from(0, 3)), 2},
		{square(from(1, 3), side), square(from(0, 2), side), square(from(2, 4), side), 1},
		{square(side, side), square(from(0, 2), side), square(from(2, 4), side), 2},
		{square(side, side), square(side, from(0, 2)), square(side, from(2, 4)), 2},
		{square(side, from(1, 3)), square(side, from(0, 2)), square(side, from(2, 4)), 1},
		{whole, first, second, 2},
		{broad, over(side, side, from(-9, 1)), over(side, side, from(1, 9)), 2},
		{differing(from(1, 3)), differing(from(0, 2)), differing(above(2, 4)), 1},
		{differing(side), differing(from(0, 2)), differing(above(2, 4)), 2},
	} {
		l := zones(c.a, c.b)
		slices.SortFunc(l, zone.Cmp)
		stands(t, c.z, zones(c.a, c.b, c.z), c.at)
		inAnyOrder(t, zones(c.z, c.a, c.b), l)
		// Without one of both it stays, and so does the other one, unless it lies in it.
		for _, other := range l {
			pair := zones(c.z, other)
			slices.SortFunc(pair, zone.Cmp)
			if lies, _ := zone.In(other, c.z); lies {
				pair = zones(c.z)
			}
			inAnyOrder(t, zones(c.z, other), pair)
		}
		inAnyOrder(t, zones(c.z, c.a, c.b, all), zones(all))
	}
}

func TestPruneWhichGoesFirst(t *testing.T) { // P12.2
	rows := from(0, 9)
	span := func(a, b int) api.Zone { return square(from(a, b), rows) }
	// Each of the four is covered by the others. From 1 to 3 stands last, and goes; so nothing covers from 2 to 3 any more.
	inAnyOrder(t, zones(span(0, 1), span(0, 2), span(2, 3), span(1, 3)), zones(span(0, 2), span(2, 3)))
	for i, z := range zones(span(0, 1), span(0, 2), span(2, 3), span(1, 3)) {
		stands(t, z, zones(span(0, 1), span(0, 2), span(2, 3), span(1, 3)), i)
	}
	// The same of u, and of u - t.
	row := func(a, b int) api.Zone { return square(rows, from(a, b)) }
	inAnyOrder(t, zones(row(0, 1), row(0, 2), row(2, 3), row(1, 3)), zones(row(0, 2), row(2, 3)))
	apart := func(a, b int) api.Zone { return differing(from(a, b)) }
	inAnyOrder(t, zones(apart(0, 1), apart(0, 2), apart(2, 3), apart(1, 3)), zones(apart(0, 2), apart(2, 3)))
	// The one that two cover together, and in which each of them lies, stands behind both.
	inAnyOrder(t, zones(span(0, 2), span(1, 3), span(0, 3)), zones(span(0, 2), span(1, 3)))
	inAnyOrder(t, zones(whole, first, second, over(from(0, 4), from(0, 4), inside(0, 4))), zones(first, second))
	// In a row in which each shares pairs with the next one, what goes hangs on what has gone behind it.
	inAnyOrder(t, zones(span(0, 2), span(1, 3), span(2, 4), span(3, 5), span(4, 6)), zones(span(0, 2), span(2, 4), span(4, 6)))
	inAnyOrder(t, zones(span(0, 2), span(1, 3), span(2, 4), span(3, 5)), zones(span(0, 2), span(1, 3), span(3, 5)))
	inAnyOrder(t, zones(span(0, 3), span(1, 4), span(2, 5), span(3, 6)), zones(span(0, 3), span(3, 6)))
	// Two columns have the same pairs together as two rows: these stand behind those, and go.
	both := from(0, 4)
	inAnyOrder(t, zones(square(from(0, 2), both), square(from(2, 4), both), square(both, from(0, 2)), square(both, from(2, 4))), zones(square(from(0, 2), both), square(from(2, 4), both)))
}

func TestPruneOrder(t *testing.T) { // P12.2
	// By the first bound that is not the same, each of the six in turn.
	six := zones(one(0, 0), square(from(1, 1), from(0, 0)), square(from(0, 1), from(5, 5)), square(from(0, 1), from(6, 6)), square(from(0, 1), from(7, 9)), square(from(-1, 1), from(7, 8)))
	want := zones(one(0, 0), square(from(1, 1), from(0, 0)), square(from(0, 1), from(5, 5)), square(from(0, 1), from(6, 6)), square(from(0, 1), from(7, 9)), square(from(-1, 1), from(7, 8)))
	inAnyOrder(t, six, want)
	// Less than 3 stands ahead of at most 3, and none stands last.
	inAnyOrder(t, zones(square(from(0, 3), from(1, 1)), square(below(0, 3), from(2, 2)), square(on(0), from(3, 3))), zones(square(below(0, 3), from(2, 2)), square(from(0, 3), from(1, 1)), square(on(0), from(3, 3))))
	// By u - t, and by t - u, which alone are not the same.
	inAnyOrder(t, zones(differing(from(4, 6)), differing(from(0, 2)), differing(from(8, 9))), zones(differing(from(0, 2)), differing(from(4, 6)), differing(from(8, 9))))
	inAnyOrder(t, zones(put(all, 4, most(-3)), put(all, 5, most(-3))), zones(put(all, 4, most(-3)), put(all, 5, most(-3))))
	for _, l := range [][]api.Zone{every(601, small()), every(211, wide()), stuff} {
		got, e := cover.Prune(l)
		if e == api.OK && !slices.IsSortedFunc(got, zone.Cmp) {
			t.Fatal(got, "is out of order")
		}
	}
}

func TestPruneBeyondMaxConst(t *testing.T) { // P12.2
	// At an end of numbers what goes, and what stays, is told as elsewhere.
	inAnyOrder(t, zones(starting(from(-edge, 0)), starting(from(0, edge)), starting(from(-edge, edge))), zones(starting(from(-edge, 0)), starting(from(0, edge))))
	inAnyOrder(t, zones(starting(below(-edge, 0)), starting(above(0, edge)), starting(from(-edge, edge))), zones(starting(from(-edge, edge))))
	inAnyOrder(t, zones(starting(below(-edge, 0)), starting(above(0, edge))), zones(starting(below(-edge, 0)), starting(above(0, edge))))
	inAnyOrder(t, zones(far, upper), zones(upper))
	// What is asked on the way has too great numbers.
	orders(zones(upper, beyond), func(l []api.Zone) { wants(t, l, nil, api.ErrBad) })
	orders(zones(upper, beyond, point), func(l []api.Zone) { wants(t, l, nil, api.ErrBad) })
	orders(zones(upper, upper, beyond), func(l []api.Zone) { wants(t, l, nil, api.ErrBad) })
	orders(zones(upper, beyond, all), func(l []api.Zone) { wants(t, l, nil, api.ErrBad) })
	inAnyOrder(t, zones(beyond, put(all, 4, most(0))), zones(beyond))
}

func TestPruneByTheWords(t *testing.T) { // P12.2
	l := slices.Concat(every(23, small()), every(31, wide()), stuff, zones(upper, beyond))
	count, gone := map[api.Errno]int{}, 0
	for i := range 30000 {
		var some []api.Zone
		for k := range i%7 + 1 {
			some = append(some, l[(i*i+k*k*67+i/11)%len(l)])
		}
		want, e := pruneByWords(some)
		wants(t, some, want, e)
		count[e]++
		if e == api.OK && len(want) > 1 && len(want)+2 < len(some) {
			gone++
		}
	}
	if count[api.OK] < 1000 || count[api.ErrBad] < 1000 || gone < 300 {
		t.Error(count, gone, "are too few to tell")
	}
}

func TestPruneOfManyThatOverlap(t *testing.T) { // P12.2, P12.5
	l := narrow()
	count := map[int]int{}
	for i := range 4000 {
		var some []api.Zone
		for k := range i%13 + 2 {
			some = append(some, l[(i*i+k*k*37+k*i+i/7)%len(l)])
		}
		want, e := pruneByWords(some)
		wants(t, some, want, e)
		if e != api.OK {
			t.Fatal(some, e)
		}
		count[len(want)]++
		if sample.PointsOf(want...) != sample.PointsOf(some...) {
			t.Fatalf("Prune(%v) = %v has other points", some, want)
		}
	}
	if len(count) < 5 || count[2] < 100 || count[3] < 100 {
		t.Error(count, "are too few to tell")
	}
}
