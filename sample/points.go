package sample

import "rallentando/api"

// reach is how far times by quarters go, which tell zones of small numbers, and what is left of them.
const reach = 4 * 7

// Points are some pairs of times by quarters, a bit each.
type Points [(2*reach+1)*(2*reach+1)/64 + 1]uint64

// PointsOf are the pairs of times of any of some zones.
func PointsOf(zones ...api.Zone) (l Points) {
	for _, z := range zones {
		n := 0
		for t := -reach; t <= reach; t++ {
			for u := -reach; u <= reach; u++ {
				if Has(z, t, u) {
					l[n/64] |= 1 << (n % 64)
				}
				n++
			}
		}
	}
	return l
}

// And are the pairs of both.
func (l Points) And(m Points) Points {
	for i := range l {
		l[i] &= m[i]
	}
	return l
}

// Or are the pairs of any of both.
func (l Points) Or(m Points) Points {
	for i := range l {
		l[i] |= m[i]
	}
	return l
}

// But are the pairs of the first ones that are none of the others.
func (l Points) But(m Points) Points {
	for i := range l {
		l[i] &^= m[i]
	}
	return l
}
