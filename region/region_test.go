package region_test

import (
	"slices"
	"testing"

	"rallentando/api"
	"rallentando/region"
	"rallentando/sample"
)

func TestExamples(t *testing.T) { // P14.1
	third, half := by(1, 3), by(1, 2)
	counts(t, 2, 75, api.OK)
	numbers(t, api.Point{T: by(0, 1), U: half}, 2, 4, api.OK)
	numbers(t, api.Point{T: third, U: by(5, 3)}, 2, 24, api.OK)
	points(t, 24, 2, api.Point{T: third, U: by(5, 3)}, api.OK)
	points(t, 25, 2, api.Point{T: half, U: by(3, 2)}, api.OK)
	points(t, 26, 2, api.Point{T: by(2, 3), U: by(4, 3)}, api.OK)
	points(t, 5, 2, api.Point{}, api.ErrNone)
}

func TestMany(t *testing.T) { // P14.1
	counts(t, 1, 27, api.OK)
	counts(t, 3, 147, api.OK)
	counts(t, top, 3267, api.OK)
	for _, long := range longs() {
		counts(t, long, many(long), api.OK)
	}
	for _, long := range badLongs() {
		counts(t, long, 0, api.ErrArg)
	}
}

func TestHowManyAreRegions(t *testing.T) { // P14.1
	for long, want := range map[int]int{1: 4, 2: 14, 3: 30} {
		if l := regions(long); len(l) != want {
			t.Errorf("of the length %d: %d regions, want %d", long, len(l), want)
		}
	}
	// The sum: whole times, one whole, none whole in one unit, none whole in two.
	for _, long := range longs() {
		both := long * (long - 1) / 2
		if l := regions(long); len(l) != (both+long)+long*(long+1)+long+3*both {
			t.Errorf("of the length %d: %d regions", long, len(l))
		}
	}
}

func TestNumber(t *testing.T) { // P14.1
	for _, c := range []struct{ t, u, unit, long, want int }{
		// Both whole: at 0, at the length, between.
		{0, 1, 1, 1, 3*2 + 1}, {0, 2, 1, 2, 3*4 + 1}, {1, 2, 1, 2, 3*(2*5+4) + 1}, {0, 16, 1, 16, 3*32 + 1}, {15, 16, 1, 16, 3*(30*33+32) + 1}, {3, 7, 1, 9, 3*(6*19+14) + 1},
		// One whole: by halves, thirds, quarters.
		{0, 1, 2, 1, 4}, {0, 1, 3, 1, 4}, {0, 3, 4, 1, 4}, {1, 2, 2, 1, 3*(1*3+2) + 1}, {2, 3, 3, 1, 3*(1*3+2) + 1}, {1, 4, 4, 1, 3*(1*3+2) + 1}, {2, 7, 2, 4, 3*(2*9+7) + 1}, {7, 8, 2, 4, 3*(7*9+8) + 1},
		// None whole, in one unit: u's fraction part is always more.
		{1, 2, 3, 1, 3 * (1*3 + 1)}, {1, 3, 4, 1, 3 * (1*3 + 1)}, {5, 6, 4, 2, 3 * (3*5 + 3)},
		// In two: less, the same, more.
		{1, 5, 3, 2, 24}, {1, 7, 4, 2, 24}, {1, 3, 2, 2, 25}, {1, 4, 3, 2, 25}, {3, 7, 4, 2, 25}, {2, 4, 3, 2, 26}, {3, 5, 4, 2, 26},
		{1, 62, 4, 16, 3 * (1*33 + 31)}, {3, 63, 4, 16, 3*(1*33+31) + 1}, {3, 62, 4, 16, 3*(1*33+31) + 2},
	} {
		numbers(t, api.Point{T: by(c.t, c.unit), U: by(c.u, c.unit)}, c.long, c.want, api.OK)
	}
	// Fraction parts that are as near as may be.
	const den = api.MaxDen
	for long := 2; long <= top; long++ {
		low := 3 * (1*(2*long+1) + 3)
		numbers(t, api.Point{T: by(1, den), U: by(den, den-1)}, long, low, api.OK)
		numbers(t, api.Point{T: by(1, den), U: by(den+1, den)}, long, low+1, api.OK)
		numbers(t, api.Point{T: by(1, den-1), U: by(den+1, den)}, long, low+2, api.OK)
		numbers(t, api.Point{T: by(den-1, den), U: by(2*den-3, den-1)}, long, low+2, api.OK)
		numbers(t, api.Point{T: by(den-2, den-1), U: by(2*den-1, den)}, long, low, api.OK)
		numbers(t, api.Point{T: by(0, 1), U: by(1, den)}, long, 4, api.OK)
		numbers(t, api.Point{T: by(1, den), U: by(1, den-1)}, long, 3*(1*(2*long+1)+1), api.OK)
		numbers(t, api.Point{T: by(long*den-1, den), U: by(long, 1)}, long, 3*((2*long-1)*(2*long+1)+2*long)+1, api.OK)
	}
}

func TestNumberOfNoPairHere(t *testing.T) { // P14.1
	const den = api.MaxDen
	for _, long := range longs() {
		for _, p := range []api.Point{
			// t that is u, and above u.
			sample.Whole(0, 0), sample.Whole(long, long), at(6, 6), at(4, 4), at(1, 1), sample.Whole(1, 0), sample.Whole(long, long-1), at(8, 4), at(1, 0), {T: by(1, den-1), U: by(1, den)},
			// t below 0.
			sample.Whole(-1, 0), sample.Whole(-1, 1), at(-1, 6), at(-1, 12*long), at(-12, 0), {T: by(-1, den), U: by(1, den)}, sample.Whole(-1<<61, 1), {T: by(-1, 2), U: by(-1, 3)}, sample.Whole(-2, -1),
			// u beyond the length.
			sample.Whole(0, long+1), sample.Whole(long, long+1), at(0, 12*long+1), at(12*long-1, 12*long+1), {T: by(0, 1), U: by(long*den+1, den)}, sample.Whole(0, 1<<61), sample.Whole(long+1, long+2), at(12*long+1, 12*long+2),
			// All of it.
			sample.Whole(-1, long+1), sample.Whole(-1<<61, 1<<61), sample.Whole(1<<61, -1<<61), sample.Whole(long+2, long+1), sample.Whole(-1, -2), {T: by(least, 5), U: by(great, 5)}, {T: by(great, 4), U: by(least, 7)}, sample.Whole(1<<61, 1<<61),
		} {
			numbers(t, p, long, 0, api.ErrNone)
		}
	}
}

func TestNumberOfTimesThatMayNotBe(t *testing.T) { // P14.1, P1
	for _, long := range []int{1, 2, top} {
		for _, bad := range sample.BadTimes() {
			for _, x := range append(sample.BadTimes(), by(0, 1), by(1, 2), by(-1, 1), by(99, 1), by(1<<61, 1)) {
				numbers(t, api.Point{T: bad, U: x}, long, 0, api.ErrBad)
				numbers(t, api.Point{T: x, U: bad}, long, 0, api.ErrBad)
			}
			numbers(t, api.Point{T: bad, U: bad}, long, 0, api.ErrBad)
		}
	}
}

func TestNumberByTheWords(t *testing.T) { // P14.1
	for _, long := range []int{1, 2, 3, 4, 7, top} {
		for n := -twelve; n <= (long+1)*twelve; n++ {
			for m := -twelve; m <= (long+1)*twelve; m++ {
				if n >= 0 && n < m && m <= long*twelve {
					numbers(t, at(n, m), long, numbered(twelve, n, m, long), api.OK)
				} else {
					numbers(t, at(n, m), long, 0, api.ErrNone)
				}
			}
		}
	}
	// By fractions of other kinds.
	for _, unit := range []int{5, 7, 9, 30, 1000} {
		for n := 0; n < 3*unit; n += 1 + unit/30 {
			for m := n + 1; m <= 3*unit; m += 1 + unit/40 {
				numbers(t, api.Point{T: by(n, unit), U: by(m, unit)}, 3, numbered(unit, n, m, 3), api.OK)
			}
		}
	}
}

func TestPointAndZone(t *testing.T) { // P14.1
	points(t, 3*(3*5+3), 2, api.Point{T: by(4, 3), U: by(5, 3)}, api.OK)
	points(t, 3*(2*5+4)+1, 2, sample.Whole(1, 2), api.OK)
	points(t, 3*(2*5+3)+1, 2, api.Point{T: by(1, 1), U: by(3, 2)}, api.OK)
	points(t, 3*(1*33+32)+1, top, api.Point{T: by(1, 2), U: by(16, 1)}, api.OK)
	spans(t, 3*(2*5+4)+1, 2, one(1, 2), api.OK)
	spans(t, 4, 1, api.Zone{most(0), most(0), less(1), less(0), less(1), less(0)}, api.OK)
	spans(t, 3*(1*5+2)+1, 2, api.Zone{less(1), less(0), most(1), most(-1), less(1), less(0)}, api.OK)
	spans(t, 12, 1, api.Zone{less(1), less(0), less(1), less(0), less(1), less(0)}, api.OK)
	spans(t, 24, 2, api.Zone{less(1), less(0), less(2), less(-1), less(2), less(-1)}, api.OK)
	spans(t, 25, 2, api.Zone{less(1), less(0), less(2), less(-1), most(1), most(-1)}, api.OK)
	spans(t, 26, 2, api.Zone{less(1), less(0), less(2), less(-1), less(1), less(0)}, api.OK)
	for _, long := range longs() {
		l := regions(long)
		for _, n := range l {
			points(t, n, long, at(pointed(n, long)), api.OK)
			spans(t, n, long, zoned(n, long), api.OK)
		}
		others := strangers(long)
		for _, n := range others {
			points(t, n, long, api.Point{}, api.ErrNone)
			spans(t, n, long, api.Zone{}, api.ErrNone)
		}
		if len(l)+len(others) != many(long) || others[0] != 0 || others[len(others)-1] != many(long)-1 {
			t.Fatal(long, len(l), len(others))
		}
		for _, n := range []int{-1, -2, -3, -many(long), many(long), many(long) + 1, many(long) + 4, 2 * many(long), 1 << 32, 1<<32 + 4, edge, great, great - 1, least, least + 1} {
			points(t, n, long, api.Point{}, api.ErrArg)
			spans(t, n, long, api.Zone{}, api.ErrArg)
		}
	}
}

func TestPointsAndZonesOfARegion(t *testing.T) { // P14.1, P14.4
	for _, long := range []int{1, 2, 3, 4, top} {
		for _, n := range regions(long) {
			p, e := region.Point(n, long)
			numbers(t, p, long, n, e)
			z, e := region.Zone(n, long)
			if e != api.OK || !sample.MayBe(z) {
				t.Fatalf("Zone(%d, %d) = %v, %d", n, long, z, e)
			}
			// All pairs are asked, those that are none here, too.
			for t1 := -twelve; t1 <= (long+1)*twelve; t1++ {
				for u1 := -twelve; u1 <= (long+1)*twelve; u1++ {
					is := t1 >= 0 && t1 < u1 && u1 <= long*twelve && numbered(twelve, t1, u1, long) == n
					if sample.HasBy(twelve, z, t1, u1) != is {
						t.Fatalf("Zone(%d, %d) = %v; %d, %d by twelfths: %t", n, long, z, t1, u1, is)
					}
				}
			}
		}
	}
}

func TestZonesOfRegionsShareNoPair(t *testing.T) { // P14.4
	const long = 3
	l := regions(long)
	for _, n := range l {
		z, _ := region.Zone(n, long)
		lists(t, zones(z), long, ints(n), api.OK)
		for _, m := range l {
			w, _ := region.Zone(m, long)
			if _, e := sample.Met(z, w); (e == api.OK) != (n == m) {
				t.Errorf("regions %d and %d: %v, %v", n, m, z, w)
			}
		}
	}
	// Each pair is in the zone of its number.
	pairs(twelve, long, func(t1, u1 int) {
		n, _ := region.Number(at(t1, u1), long)
		z, e := region.Zone(n, long)
		if e != api.OK || !sample.HasBy(twelve, z, t1, u1) || !slices.Contains(l, n) {
			t.Errorf("%d, %d by twelfths: %d, %v", t1, u1, n, z)
		}
	})
}
