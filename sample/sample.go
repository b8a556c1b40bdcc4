// Package sample has bounds, matrices, zones and spans that the tests of several layers are made of; the program itself calls none of it.
package sample

import (
	"math"
	"slices"

	"rallentando/api"
)

// Edge is the greatest number of a bound of a matrix.
const Edge = api.MaxConst

// Most is the bound of at most a number.
func Most(c int) api.Bound { return api.Bound(2*c + 1) }

// Less is the bound of less than a number.
func Less(c int) api.Bound { return api.Bound(2 * c) }

// Of is a matrix as it is written, whether it may be or not.
func Of(clocks int, bounds ...api.Bound) api.Dbm {
	return api.Dbm{Clocks: clocks, Bounds: bounds}
}

// Full is a matrix with one bound everywhere.
func Full(clocks int, b api.Bound) api.Dbm {
	return Of(clocks, slices.Repeat([]api.Bound{b}, clocks*clocks)...)
}

// With is a matrix that has another bound at one place.
func With(d api.Dbm, i, j int, b api.Bound) api.Dbm {
	bounds := slices.Clone(d.Bounds)
	bounds[i*d.Clocks+j] = b
	return Of(d.Clocks, bounds...)
}

// Free is a matrix that says nothing but at most 0 of each clock and itself.
func Free(clocks int) api.Dbm {
	d := Full(clocks, api.None)
	for i := range clocks {
		d.Bounds[i*clocks+i] = Most(0)
	}
	return d
}

// BadBounds are bounds that may not be in a matrix.
func BadBounds() []api.Bound {
	return []api.Bound{Most(Edge + 1), Less(Edge + 1), Most(-Edge - 1), Less(-Edge - 1), Most(1 << 61), Less(-1 << 61), api.None - 1, api.None - 2, math.MinInt, math.MinInt + 1}
}

// Bad are matrices that may not be: by Clocks, by how many Bounds there are, by a number.
func Bad() []api.Dbm {
	l := []api.Dbm{{}, Of(0), Of(0, 1), Of(-1, 1), Of(-2, 1, 1, 1, 1), Of(5, Full(5, 1).Bounds...), Of(math.MaxInt, 1), Of(math.MinInt, 1), Of(math.MinInt), Of(1 << 32), Of(math.MinInt + 1),
		Of(1), Of(1, 1, 1), {Clocks: 1, Bounds: []api.Bound{}}, Of(2), Of(2, 1), Of(2, 1, 1, 1), Of(2, 1, 1, 1, 1, 1), Of(3, Full(2, 1).Bounds...), Of(2, Full(3, 1).Bounds...),
		Of(4), Of(4, Full(4, 1).Bounds[1:]...), Of(4, append(Full(4, 1).Bounds, 1)...), Of(4, Full(5, 1).Bounds...), Of(3, 1, 1, 1)}
	for clocks := 1; clocks <= api.MaxClocks; clocks++ {
		last := clocks - 1
		for _, b := range BadBounds() {
			l = append(l, Full(clocks, b), With(Free(clocks), 0, 0, b), With(Free(clocks), 0, last, b), With(Free(clocks), last, 0, b), With(Free(clocks), last, last, b))
		}
	}
	return l
}

// Empty are matrices that may be, and that no times keep: not closed, so that each call has to find it out.
func Empty() []api.Dbm {
	return []api.Dbm{Of(1, 0), Of(1, Most(-Edge)), Of(2, 1, -5, 3, 1), Of(2, 0, api.None, api.None, 1), Of(2, 1, api.None, api.None, Less(-Edge)), Of(2, 1, Less(-4), Most(4), 1),
		With(With(With(Free(3), 0, 1, Most(5)), 1, 2, Most(-8)), 2, 0, Most(2)),
		With(With(With(With(Free(4), 0, 1, Most(1)), 1, 2, Most(1)), 2, 3, Most(1)), 3, 0, Less(-3)),
		Full(1, -1), Full(2, Most(-Edge)), Full(3, Most(-Edge)), Full(4, Less(-Edge))}
}

// Some are matrices whose bounds are drawn of a few, always the same ones.
func Some(n, clocks int, few ...api.Bound) []api.Dbm {
	draw := draws(n)
	var l []api.Dbm
	for range n {
		d := Full(clocks, api.None)
		for place := range d.Bounds {
			d.Bounds[place] = few[draw(len(few))]
		}
		// A clock's bound of itself is drawn seldom, since it mostly empties all.
		for i := range clocks {
			if draw(12) > 0 {
				d.Bounds[i*clocks+i] = max(Most(0), d.Bounds[i*clocks+i])
			}
		}
		l = append(l, d)
	}
	return l
}

// Few are the bounds that small matrices are drawn of.
func Few() []api.Bound {
	return []api.Bound{api.None, api.None, api.None, 0, 1, -1, 2, 3, -2, -3, 4, 5}
}

// Many are matrices of small numbers, and of those at the edges.
func Many() []api.Dbm {
	var l []api.Dbm
	for clocks := 1; clocks <= api.MaxClocks; clocks++ {
		l = append(l, Some(151, clocks, Few()...)...)
		l = append(l, Some(152, clocks, api.None, Most(Edge), Less(Edge), Most(-Edge), Less(-Edge), Most(0))...)
	}
	return append(l, Empty()...)
}

// Wide are matrices with numbers at the edges, most of which some times keep: what follows from these is often beyond what may be.
func Wide() []api.Dbm {
	var l []api.Dbm
	for clocks := 2; clocks <= api.MaxClocks; clocks++ {
		// Few bounds each: most matrices that say much are empty.
		few := append(slices.Repeat([]api.Bound{api.None}, 24), Most(Edge), Less(Edge), Most(Edge-1), Most(-Edge), Less(-Edge), 1, 0, 3, -2)
		l = append(l, Some(800, clocks, few...)...)
		l = append(l, Some(900, clocks, api.None, Most(Edge), Less(Edge))...)
		l = append(l, Some(901, clocks, api.None, api.None, api.None, Most(Edge), Less(Edge), Most(-Edge), Less(-Edge))...)
	}
	return l
}

// Grid goes through times by 4, as far as reach on both sides, for all clocks but that of nought: whole numbers' bounds that any times in reach keep are kept by one of these.
func Grid(clocks, reach int, each func([]api.Rat)) {
	var quarters []api.Rat
	for n := -4 * reach; n <= 4*reach; n++ {
		quarters = append(quarters, By(n, 4))
	}
	var more func(times []api.Rat)
	more = func(times []api.Rat) {
		if len(times) == clocks-1 {
			each(times)
			return
		}
		for _, q := range quarters {
			more(append(slices.Clone(times), q))
		}
	}
	more(nil)
}

// Turned are those of n questions that are answered otherwise when they are asked once more, from the end: neither what was asked ahead nor how often is to turn an answer.
func Turned[T comparable](n int, one func(i int) T) []int {
	var first []T
	for i := range n {
		first = append(first, one(i))
	}
	var l []int
	for i := n - 1; i >= 0; i-- {
		if one(i) != first[i] {
			l = append(l, i)
		}
	}
	return l
}

// By is a fraction in lowest terms.
func By(n, d int) api.Rat {
	common, rest := n, d
	for rest != 0 {
		common, rest = rest, common%rest
	}
	common = max(common, -common)
	return api.Rat{Num: n / common, Den: d / common}
}

// draws tells numbers below another one by a rule, that begins with a number of its own.
func draws(begin int) func(below int) int {
	state := uint64(begin)
	return func(below int) int {
		state = state*6364136223846793005 + 1442695040888963407
		// The upper bits alone: the lower ones come round soon.
		return int(state >> 33 % uint64(below))
	}
}
