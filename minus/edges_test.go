package minus_test

import (
	"slices"
	"testing"

	"rallentando/api"
	"rallentando/sample"
)

// joins are two places of bounds, and the place of what they come to.
var joins = [][3]int{{0, 3, 5}, {3, 0, 5}, {1, 2, 4}, {2, 1, 4}, {0, 4, 2}, {4, 0, 2}, {1, 5, 3}, {5, 1, 3}, {2, 5, 0}, {5, 2, 0}, {3, 4, 1}, {4, 3, 1}}

func TestZonesThatComeBeyondMaxConst(t *testing.T) { // P11.1
	for _, c := range sample.Additions() {
		for _, j := range joins {
			// The first zone's bound, and what is turned round of the second one's, come to a sum.
			a, b := put(all, j[0], c.A), put(all, j[1]^1, not(c.B))
			takes(t, a, b, zones(put(put(a, j[1], c.B), j[2], c.Sum)), c.E)
			leaves(t, a, zones(b), zones(put(put(a, j[1], c.B), j[2], c.Sum)), c.E)
		}
	}
}

func TestWhatKeepsAllBeyondMaxConst(t *testing.T) { // P11.1
	for _, c := range sample.Additions() {
		for _, j := range joins {
			// What comes is as far as it may be; what keeps the second one's bound comes to the sum.
			a, b := put(all, j[0], c.A), put(all, j[1], c.B)
			takes(t, a, b, zones(put(a, j[1]^1, not(c.B))), c.E)
			leaves(t, a, zones(b), zones(put(a, j[1]^1, not(c.B))), c.E)
		}
	}
	takes(t, upper, differing(from(-5, 0)), zones(put(differing(up(0)), 0, most(edge)), api.Zone{most(edge), none, less(edge - 5), none, less(-5), none}), api.OK)
	takes(t, upper, put(all, 4, most(0)), zones(put(differing(up(0)), 0, most(edge))), api.OK)
	takes(t, upper, put(all, 4, less(1)), nil, api.ErrBad)
	takes(t, lower, differing(on(0)), zones(api.Zone{none, most(edge), none, none, less(0), none}), api.OK)
	takes(t, lower, differing(on(-1)), nil, api.ErrBad)
}

func TestWhatKeepsTheBoundsAheadBeyondMaxConst(t *testing.T) { // P11.1
	// The first bound that is beyond has others behind it, that would bring it back within, or would leave nothing.
	for _, c := range []struct{ a, b api.Zone }{
		{upper, differing(from(-1, 1))},
		{upper, differing(from(1, 1))},
		{upper, square(from(0, 5), from(0, 5))},
		{lower, square(from(-9, -5), from(3, 4))},
		{put(all, 3, most(edge)), differing(from(3, 4))},
		{put(all, 4, most(edge)), square(from(1, 2), from(0, 9))},
		{put(all, 5, most(edge)), square(from(1, 2), from(1, 9))},
		{put(all, 1, less(edge)), ending(from(1, 3))},
		{put(all, 0, less(-edge)), ending(from(-9, 9))},
	} {
		want, e := minusByWords(c.a, c.b)
		takes(t, c.a, c.b, want, e)
	}
	takes(t, upper, differing(from(-1, 1)), nil, api.ErrBad)
	takes(t, upper, differing(from(1, 1)), nil, api.ErrBad)
	takes(t, upper, differing(from(-1, 0)), zones(put(differing(up(0)), 0, most(edge)), api.Zone{most(edge), none, less(edge - 1), none, less(-1), none}), api.OK)
	takes(t, lower, put(differing(from(-9, 9)), 0, most(9)), nil, api.ErrBad)
	// t from -2^58 on, u up to 1 comes to u - t up to 2^58 and 1; where t is from 1 on ahead of it, to u - t up to 0.
	takes(t, lower, ending(from(1, 1)), nil, api.ErrBad)
	takes(t, lower, square(from(1, 2), from(1, 1)), zones(starting(up(2)), starting(below(-edge, 1)), square(from(1, 2), up(1)), api.Zone{most(2), most(-1), less(1), none, less(0), none}), api.OK)
}

func TestNothingLeftAheadOfWhatIsBeyond(t *testing.T) { // P11.1
	late := starting(from(5, edge))
	beyond := put(all, 4, most(1))
	takes(t, late, beyond, nil, api.ErrBad)
	// No point of it keeps t up to 4: so u - t up to 1, which it is asked behind that, comes to nothing.
	takes(t, late, api.Zone{most(4), none, most(5), none, most(1), none}, zones(late), api.OK)
	takes(t, late, api.Zone{less(5), none, less(6), none, most(1), none}, zones(late), api.OK)
	takes(t, late, api.Zone{most(5), none, most(6), none, most(1), none}, zones(starting(above(5, edge)), square(from(5, 5), up(6))), api.OK)
	// Ahead of the bound that no point keeps stands one that comes to what is beyond, or just within.
	near := differing(from(-edge, 0))
	takes(t, near, put(all, 4, less(-edge)), zones(near), api.OK)
	takes(t, near, put(put(all, 4, less(-edge)), 2, most(1)), nil, api.ErrBad)
	takes(t, near, put(put(all, 4, less(-edge)), 2, most(0)), zones(api.Zone{none, less(0), none, less(0), most(0), most(edge)}, api.Zone{most(edge), none, most(0), none, most(0), most(edge)}), api.OK)
}

func TestByTheWords(t *testing.T) { // P11.1
	count := map[api.Errno]int{}
	holes := [6]int{}
	l := slices.Concat(every(47, small()), every(29, wide()), stuff, zones(part, broad, upper, lower))
	for _, a := range l {
		for _, b := range l {
			want, e := minusByWords(a, b)
			takes(t, a, b, want, e)
			leaves(t, a, zones(b), want, e)
			count[e]++
			if e == api.OK && len(want) > 1 {
				count[-1]++
			}
			for i := range b {
				if b[i] == none && e == api.OK && len(want) > 0 {
					holes[i]++
				}
			}
		}
	}
	if count[api.OK] < 1000 || count[api.ErrBad] < 1000 || count[-1] < 1000 || slices.Min(holes[:]) < 1000 {
		t.Error(count, holes, "are too few to tell")
	}
}
