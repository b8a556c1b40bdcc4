package sample

import (
	"slices"

	"rallentando/api"
)

// Covered tells whether nothing is left of a zone by some.
func Covered(z api.Zone, l []api.Zone) (bool, api.Errno) {
	left, e := Left(z, l)
	return e == api.OK && len(left) == 0, e
}

// AllCovered tells whether each of some, one after another, is covered by others.
func AllCovered(a, b []api.Zone) (bool, api.Errno) {
	for _, z := range a {
		if is, e := Covered(z, b); !is {
			return false, e
		}
	}
	return true, api.OK
}

// Wanted are those of some zones that are wanted: gone are those that are covered by what is still there.
func Wanted(l []api.Zone) ([]api.Zone, api.Errno) {
	var ordered []api.Zone
	for _, z := range l {
		at := 0
		for at < len(ordered) && slices.Compare(ordered[at][:], z[:]) < 0 {
			at++
		}
		if at == len(ordered) || ordered[at] != z {
			ordered = slices.Insert(ordered, at, z)
		}
	}
	gone := make([]bool, len(ordered))
	there := func() []api.Zone {
		var l []api.Zone
		for i, z := range ordered {
			if !gone[i] {
				l = append(l, z)
			}
		}
		return l
	}
	for i := len(ordered) - 1; i >= 0; i-- {
		gone[i] = true
		is, e := Covered(ordered[i], there())
		if e != api.OK {
			return nil, e
		}
		gone[i] = is
	}
	return there(), api.OK
}

// NarrowZones are zones of small numbers that are put together of few, so that they often cover one another.
func NarrowZones() []api.Zone {
	spans := []api.Span{From(0, 1), From(1, 2), From(0, 2), Below(0, 1), Above(1, 2), Inside(0, 2), From(1, 1), From(0, 0), Below(0, 2), Above(0, 2)}
	var l []api.Zone
	for _, t := range spans {
		for _, u := range spans {
			l = append(l, Square(t, u))
			for _, d := range []api.Span{Up(0), From(0, 0), From(0, 1), Below(-2, 0), From(-1, 0)} {
				if z, e := Follows(Spanned([3]api.Span{t, u, d})); e == api.OK {
					l = append(l, z)
				}
			}
		}
	}
	return l
}

// Picked are n of some, always the same ones for each number.
func Picked(l []api.Zone, number, n int) []api.Zone {
	var some []api.Zone
	for k := range n {
		some = append(some, l[(number*number+k*k*37+k*number+number/7)%len(l)])
	}
	return some
}

// Orders goes through all orders of some.
func Orders(l []api.Zone, do func([]api.Zone)) {
	var more func(ahead, rest []api.Zone)
	more = func(ahead, rest []api.Zone) {
		if len(rest) == 0 {
			do(ahead)
		}
		for i, z := range rest {
			more(append(slices.Clone(ahead), z), slices.Concat(rest[:i], rest[i+1:]))
		}
	}
	more(nil, l)
}
