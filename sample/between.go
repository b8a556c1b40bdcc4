package sample

import "rallentando/api"

// The times that pairs with a time between are tried with: the outer ones by quarters, the one between by eighths, and farther by what small zones may ask of it.
const (
	Outer  = 4 * 5
	middle = 8*5 + 8*3
)

// Times are some times by eighths, a bit each.
type Times [2*middle/64 + 1]uint64

// Common tells whether two have a time in common.
func (l Times) Common(m Times) bool {
	for i := range l {
		if l[i]&m[i] != 0 {
			return true
		}
	}
	return false
}

// Behind are the times between that are behind each outer one in pairs of some zones.
func Behind(zones ...api.Zone) [2*Outer + 1]Times {
	return marked(zones, func(z api.Zone, outer, s int) bool { return Has(z, outer, s) })
}

// Ahead are those that are ahead of each outer one.
func Ahead(zones ...api.Zone) [2*Outer + 1]Times {
	return marked(zones, func(z api.Zone, outer, s int) bool { return Has(z, s, outer) })
}

// marked are the times between that some zones take, for each outer one.
func marked(zones []api.Zone, takes func(z api.Zone, outer, s int) bool) (l [2*Outer + 1]Times) {
	for _, z := range zones {
		z = doubled(z)
		for i := range l {
			for s := range 2*middle + 1 {
				if takes(z, 2*(i-Outer), s-middle) {
					l[i][s/64] |= 1 << (s % 64)
				}
			}
		}
	}
	return l
}

// doubled is a zone of twice the numbers: what it has by quarters the zone itself has by eighths.
func doubled(z api.Zone) api.Zone {
	for i, b := range z {
		if b != api.None {
			z[i] = 2*b - b&1
		}
	}
	return z
}
