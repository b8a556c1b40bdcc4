package zset_test

import (
	"slices"
	"testing"

	"rallentando/api"
	"rallentando/sample"
)

func TestAndOfNoneAndOne(t *testing.T) { // P13.2
	for _, l := range [][]api.Zone{nil, zones(), zones(whole), zones(first, second), zones(whole, whole, point)} {
		meets(t, l, nil, nil, api.OK)
		meets(t, nil, l, nil, api.OK)
		meets(t, l, zones(), nil, api.OK)
		meets(t, l, zones(one(9, 1)), nil, api.OK)
		meets(t, zones(one(9, 1)), l, nil, api.OK)
	}
	for _, c := range lists() {
		meets(t, c[0], zones(all), c[1], api.OK)
		meets(t, c[0], times(3, all), c[1], api.OK)
		meets(t, zones(all, all), c[1], c[1], api.OK)
	}
}

func TestAnd(t *testing.T) { // P13.2
	side := from(0, 4)
	column := func(a, b int) api.Zone { return square(from(a, b), side) }
	row := func(a, b int) api.Zone { return square(side, from(a, b)) }
	cell := func(a, b, c, d int) api.Zone { return square(from(a, b), from(c, d)) }
	// No two have anything in common.
	meets(t, zones(one(1, 1), one(2, 2)), zones(one(1, 2), one(2, 1), one(3, 3)), nil, api.OK)
	meets(t, zones(column(0, 1), column(3, 4)), zones(square(inside(1, 3), side)), nil, api.OK)
	meets(t, zones(differing(up(0))), zones(differing(from(0, 0)), differing(below(-4, 0))), nil, api.OK)
	// All have.
	meets(t, zones(column(0, 1), column(2, 4)), zones(row(0, 1), row(2, 4)), zones(cell(0, 1, 0, 1), cell(0, 1, 2, 4), cell(2, 4, 0, 1), cell(2, 4, 2, 4)), api.OK)
	meets(t, zones(row(0, 1), row(2, 4)), zones(column(0, 1), column(2, 4)), zones(cell(0, 1, 0, 1), cell(0, 1, 2, 4), cell(2, 4, 0, 1), cell(2, 4, 2, 4)), api.OK)
	meets(t, zones(first, second), zones(first, second), zones(first, second), api.OK)
	meets(t, zones(first, second), zones(whole), zones(first, second), api.OK)
	meets(t, zones(whole), zones(first, second), zones(first, second), api.OK)
	meets(t, zones(whole, broad), zones(whole, broad), zones(broad), api.OK)
	// Some have: the way brings nothing first, last, between those that bring something, and by a zone as a whole.
	meets(t, zones(column(0, 1), column(3, 4)), zones(one(9, 9), column(1, 3), one(2, 2)), zones(cell(1, 1, 0, 4), cell(3, 3, 0, 4)), api.OK)
	meets(t, zones(broad), zones(one(0, 1), far, one(2, 1), one(9, 9), one(1, 4)), zones(one(0, 1), one(1, 4), one(2, 1)), api.OK)
	meets(t, zones(one(0, 1), one(7, 7), one(9, 9), one(2, 1)), zones(broad, far), zones(one(0, 1), one(2, 1)), api.OK)
	meets(t, zones(one(7, 7), one(2, 1), one(9, 9)), zones(far, broad), zones(one(2, 1)), api.OK)
	// What comes lies in what came ahead, or covers it, by itself or together.
	meets(t, zones(column(0, 2), column(1, 2)), zones(row(0, 2), row(1, 2)), zones(cell(0, 2, 0, 2)), api.OK)
	meets(t, zones(column(1, 2), column(0, 2)), zones(row(1, 2), row(0, 2)), zones(cell(0, 2, 0, 2)), api.OK)
	meets(t, zones(column(1, 3), column(0, 2), column(2, 4)), zones(all), zones(column(0, 2), column(2, 4)), api.OK)
}

// asked are zones of which two, one behind the other, are asked by one another with too great numbers, while neither has the point.
func asked() []api.Zone {
	return zones(put(put(all, 0, most(-20)), 2, most(5)), starting(from(-edge, -10)))
}

func TestAndWithErrors(t *testing.T) { // P13.2
	// Of two zones: the first, the second, a later pair; behind some that bring something, and some that bring nothing.
	meets(t, zones(upper), zones(beyond), nil, api.ErrBad)
	meets(t, zones(beyond), zones(upper), nil, api.ErrBad)
	meets(t, zones(upper), zones(point, far, beyond), nil, api.ErrBad)
	meets(t, zones(point, upper), zones(beyond), nil, api.ErrBad)
	meets(t, zones(point, one(9, 99), upper), zones(one(8, 8), beyond), nil, api.ErrBad)
	meets(t, zones(point, one(9, 99)), zones(one(8, 8), beyond), zones(point), api.OK)
	// Of what is wanted, at the first zone of the first list, and at the second one.
	meets(t, zones(all), zones(upper, beyond), nil, api.ErrBad)
	meets(t, zones(upper, beyond), zones(all), nil, api.ErrBad)
	meets(t, zones(all), net(), nil, api.ErrMany)
	meets(t, zones(one(500, 500), all), net(), nil, api.ErrMany)
	// Behind it anything else, that would cover all.
	meets(t, zones(upper, beyond, all), zones(all), nil, api.ErrBad)
	meets(t, zones(all, upper), zones(upper, beyond), nil, api.ErrBad)
	// Where all comes first there is nothing but it, each time, when what is wanted is asked.
	meets(t, zones(all, upper, beyond), zones(all), zones(all), api.OK)
	meets(t, zones(all), zones(upper), zones(upper), api.OK)
}

func TestAndOfWhatIsAskedOnceMore(t *testing.T) { // P13.2
	// Of each zone of the first list what is wanted is asked, also of one that brings nothing.
	nowhere := starting(up(5))
	meets(t, zones(all), stuck(), stuck()[:2], api.OK)
	meets(t, zones(nowhere), stuck(), nil, api.OK)
	meets(t, zones(nowhere, nowhere, all), stuck(), stuck()[:2], api.OK)
	meets(t, zones(all, nowhere), stuck(), nil, api.ErrBad)
	meets(t, zones(nowhere, all, nowhere), stuck(), nil, api.ErrBad)
	// Where it is answered, nothing turns, however often it is asked.
	meets(t, append(zones(all), times(9, nowhere)...), zones(whole, first, second), zones(first, second), api.OK)
	meets(t, slices.Concat(times(3, nowhere), zones(first), times(3, nowhere), zones(second), times(3, nowhere)), zones(whole, one(-9, -9), whole), zones(first, second), api.OK)
	meets(t, slices.Concat(times(3, far), zones(first), times(3, far), zones(second), times(3, far)), zones(whole, whole), zones(first, second), api.OK)
}

func TestAndOfTooManyThatCome(t *testing.T) { // P13.2, P1
	full := times(api.MaxList, whole)
	meets(t, zones(whole), full, zones(whole), api.OK)
	meets(t, full, zones(whole), zones(whole), api.OK)
	meets(t, full, zones(first, second), zones(first, second), api.OK)
	meets(t, full, nil, nil, api.OK)
	meets(t, nil, full, nil, api.OK)
	meets(t, zones(far, whole, far), full, zones(whole), api.OK)
	// What is wanted so far, and MaxList zones more, are too many to be asked of, even of those that are there already.
	meets(t, zones(whole, whole), full, nil, api.ErrMany)
	meets(t, zones(whole, whole), full[1:], zones(whole), api.OK)
	meets(t, zones(first, second), full, nil, api.ErrMany)
	meets(t, zones(first, second), full[1:], zones(first, second), api.OK)
	meets(t, zones(first, second, whole), full[1:], nil, api.ErrMany)
	meets(t, zones(first, second, whole), full[2:], zones(first, second), api.OK)
	meets(t, full, full, nil, api.ErrMany)
}

func TestWhichErrorOfAndIsTold(t *testing.T) { // P13.2
	// The point comes of each of these.
	by := append(times(api.MaxList-1, all), beyond)
	meets(t, zones(point), by, zones(point), api.OK)
	meets(t, zones(point, point), by, nil, api.ErrMany)
	meets(t, zones(upper), by, nil, api.ErrBad)
	// Of one zone and the others, ahead of what is wanted of both; and the other way round.
	meets(t, zones(point, upper), by, nil, api.ErrBad)
	meets(t, zones(point, upper, point), by, nil, api.ErrBad)
	meets(t, zones(point, point, upper), by, nil, api.ErrMany)
	// Of what is wanted, one behind the other.
	by = append(times(api.MaxList-1, point), all)
	meets(t, asked(), by, nil, api.ErrBad)
	meets(t, append(asked(), point, point), by, nil, api.ErrBad)
	meets(t, append(zones(point, point), asked()...), by, nil, api.ErrMany)
	// Of what is wanted, and of one zone and another one behind it.
	meets(t, zones(upper, all), append(net(), beyond), nil, api.ErrBad)
	meets(t, zones(all, upper), append(net(), beyond), nil, api.ErrMany)
	meets(t, zones(point, upper, all), append(net(), beyond), nil, api.ErrBad)
	meets(t, zones(broad, square(inside(-1, 127), inside(-1, 127)), upper), append(net(), beyond), nil, api.ErrMany)
}

func TestCompOfNoneAndOne(t *testing.T) { // P13.2
	for _, l := range [][]api.Zone{nil, zones(), zones(whole), zones(first, second), zones(whole, whole, point)} {
		comes(t, l, nil, nil, api.OK)
		comes(t, nil, l, nil, api.OK)
		comes(t, l, zones(), nil, api.OK)
		comes(t, l, zones(one(9, 1)), nil, api.OK)
		comes(t, zones(one(1, 9)), l, nil, api.OK)
	}
	// By u - t being 0 the same comes, on either side.
	same := differing(from(0, 0))
	for _, c := range lists() {
		comes(t, c[0], zones(same), c[1], api.OK)
		comes(t, zones(same), c[0], c[1], api.OK)
		comes(t, c[0], times(3, same), c[1], api.OK)
	}
}

func TestComp(t *testing.T) { // P13.2
	// No two have a time between.
	comes(t, zones(one(1, 2), one(1, 3)), zones(one(4, 5), one(1, 2)), nil, api.OK)
	comes(t, zones(square(from(0, 1), from(0, 2))), zones(square(above(2, 4), from(5, 6)), square(from(3, 4), from(5, 7))), nil, api.OK)
	// All have.
	comes(t, zones(one(1, 2), one(4, 2)), zones(one(2, 5), one(2, 3)), zones(one(1, 3), one(1, 5), one(4, 3), one(4, 5)), api.OK)
	comes(t, zones(whole), zones(whole), zones(whole), api.OK)
	comes(t, zones(over(from(0, 2), from(0, 2), up(0)), over(from(0, 2), from(2, 4), up(0))), zones(over(from(2, 4), from(2, 4), up(0))), zones(over(from(0, 2), above(2, 4), up(0))), api.OK)
	// Some have: the way brings nothing first, last, and between those that bring something.
	comes(t, zones(one(0, 7), one(1, 2), one(1, 3), one(4, 3)), zones(one(9, 9), one(3, 8), one(2, 6), one(5, 5)), zones(one(1, 6), one(1, 8), one(4, 8)), api.OK)
	comes(t, zones(one(1, 2)), zones(one(2, 9), one(3, 3), one(2, 8), far, one(2, 7)), zones(one(1, 7), one(1, 8), one(1, 9)), api.OK)
	comes(t, zones(one(3, 2), one(0, 0), one(2, 2), far, one(1, 2)), zones(one(2, 9)), zones(one(1, 9), one(2, 9), one(3, 9)), api.OK)
	// What comes lies in what came ahead, or covers it, by itself or together.
	comes(t, zones(one(1, 2), square(from(0, 3), from(2, 3))), zones(one(2, 5), square(from(2, 2), from(4, 6))), zones(square(from(0, 3), from(4, 6))), api.OK)
	comes(t, zones(square(from(1, 3), from(2, 2)), square(from(0, 2), from(2, 2)), square(from(2, 4), from(2, 2))), zones(one(2, 5)), zones(square(from(0, 2), from(5, 5)), square(from(2, 4), from(5, 5))), api.OK)
	// One behind the other is not the other one behind the one.
	comes(t, zones(one(1, 2)), zones(one(2, 3)), zones(one(1, 3)), api.OK)
	comes(t, zones(one(2, 3)), zones(one(1, 2)), nil, api.OK)
	// A time between is wanted, not one pair for each: u - t from 1 to 2, and from 1 to 2.
	comes(t, zones(differing(from(1, 2))), zones(differing(from(1, 2))), zones(differing(from(2, 4))), api.OK)
	comes(t, zones(differing(above(1, 2)), differing(from(5, 5))), zones(differing(from(1, 1))), zones(differing(above(2, 3)), differing(from(6, 6))), api.OK)
}

func TestCompWithErrors(t *testing.T) { // P13.2
	early := one(4, -4)
	comes(t, zones(long), zones(long), nil, api.ErrBad)
	comes(t, zones(early), zones(long), zones(api.Zone{most(4), most(-4), most(edge - 4), none, most(edge - 8), none}), api.OK)
	comes(t, zones(early, far, long), zones(one(3, 3), long), nil, api.ErrBad)
	comes(t, zones(long), zones(one(3, 2), far, long), nil, api.ErrBad)
	// Of what is wanted, at the first zone of the first list, and at the second one.
	same := differing(from(0, 0))
	comes(t, zones(same), zones(upper, beyond), nil, api.ErrBad)
	comes(t, zones(upper, beyond), zones(same), nil, api.ErrBad)
	comes(t, zones(upper, beyond, all), zones(same), nil, api.ErrBad)
	comes(t, zones(same), net(), nil, api.ErrMany)
	comes(t, zones(one(500, 500), same), net(), nil, api.ErrMany)
	comes(t, zones(same), stuck(), stuck()[:2], api.OK)
	comes(t, zones(one(500, 500), same), stuck(), stuck()[:2], api.OK)
	comes(t, zones(same, one(500, 500)), stuck(), nil, api.ErrBad)
}

func TestWhichErrorOfCompIsTold(t *testing.T) { // P13.2, P1
	early := one(4, -4)
	full := times(api.MaxList, one(-4, 3))
	comes(t, zones(early), full, zones(one(4, 3)), api.OK)
	comes(t, zones(early, early), full[1:], zones(one(4, 3)), api.OK)
	comes(t, zones(early, early), full, nil, api.ErrMany)
	comes(t, full, zones(one(3, 9)), zones(one(-4, 9)), api.OK)
	comes(t, full, zones(one(3, 9), one(3, 8)), zones(one(-4, 8), one(-4, 9)), api.OK)
	comes(t, full, full[:9], nil, api.OK)
	comes(t, full[:9], full, nil, api.OK)
	comes(t, full, nil, nil, api.OK)
	comes(t, nil, full, nil, api.OK)
	// Of one zone and the others, ahead of what is wanted of both; and the other way round.
	by := append(slices.Clone(full[1:]), long)
	comes(t, zones(early, long), by, nil, api.ErrBad)
	comes(t, zones(early, long, early), by, nil, api.ErrBad)
	comes(t, zones(early, early, long), by, nil, api.ErrMany)
	// Of what is wanted, one behind the other.
	by = append(times(api.MaxList-1, one(2, 2)), differing(from(0, 0)))
	comes(t, append(asked(), point, point), by, nil, api.ErrBad)
	comes(t, append(zones(point, point), asked()...), by, nil, api.ErrMany)
}

func TestBothByTheWords(t *testing.T) { // P13.2, P13.6
	count := map[string]map[api.Errno]int{"And": {}, "Comp": {}}
	for _, l := range [][]api.Zone{slices.Concat(every(41, small()), narrow(), stuff), append(every(7, wide()), stuff...), slices.Concat(every(31, wide()), stuck(), asked(), zones(upper, beyond, long, all, differing(from(0, 0))))} {
		for i := range 4000 {
			a, b := picked(l, i, i%5), picked(l, i*3+1, i%4+i/2%2)
			want, e := bothByWords(a, b, sample.Met)
			meets(t, a, b, want, e)
			settled(t, want)
			count["And"][e]++
			want, e = bothByWords(a, b, sample.Composed)
			comes(t, a, b, want, e)
			settled(t, want)
			count["Comp"][e]++
		}
	}
	for name, n := range count {
		if n[api.OK] < 1000 || n[api.ErrBad] < 1000 {
			t.Error(name, n, "are too few to tell")
		}
	}
}
