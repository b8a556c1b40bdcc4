package sample

import (
	"math"
	"slices"

	"rallentando/api"
)

// reach is how far times by quarters go, which tell zones of small numbers, and what is left of them.
const reach = 4 * 7

// Points are some pairs of times by quarters, a bit each.
type Points [(2*reach+1)*(2*reach+1)/64 + 1]uint64

// PointsOf are the pairs of times of any of some zones.
func PointsOf(zones ...api.Zone) Points {
	return PointsThat(func(t, u int) bool {
		return slices.ContainsFunc(zones, func(z api.Zone) bool { return Has(z, t, u) })
	})
}

// PointsThat are the pairs of times of which something is so.
func PointsThat(so func(t, u int) bool) (l Points) {
	n := 0
	for t := -reach; t <= reach; t++ {
		for u := -reach; u <= reach; u++ {
			if so(t, u) {
				l[n/64] |= 1 << (n % 64)
			}
			n++
		}
	}
	return l
}

// And are the pairs of both.
func (l Points) And(m Points) Points {
	for i := range l {
		l[i] &= m[i]
	}
	return l
}

// Or are the pairs of any of both.
func (l Points) Or(m Points) Points {
	for i := range l {
		l[i] |= m[i]
	}
	return l
}

// But are the pairs of the first ones that are none of the others.
func (l Points) But(m Points) Points {
	for i := range l {
		l[i] &^= m[i]
	}
	return l
}

// BadTimes may not be: by Den, by common divisors, by size.
func BadTimes() []api.Rat {
	l := []api.Rat{{}, {Num: 1}, {Num: math.MinInt}, {Num: math.MaxInt, Den: 1}, {Num: math.MinInt, Den: 1}, {Num: 1<<61 + 1, Den: 1}, {Num: -1<<61 - 1, Den: 1}, {Num: math.MaxInt, Den: 3}, {Num: math.MinInt, Den: 3}}
	for _, den := range []int{-1, -2, math.MinInt, 1<<20 + 1, 1 << 21, math.MaxInt} {
		l = append(l, api.Rat{Num: 1, Den: den}, api.Rat{Num: 0, Den: den})
	}
	return append(l, api.Rat{Num: 0, Den: 2}, api.Rat{Num: 2, Den: 4}, api.Rat{Num: -3, Den: 3}, api.Rat{Num: 1 << 20, Den: 1 << 20}, api.Rat{Num: 6, Den: 9})
}
