package sample

import "rallentando/api"

// Not is what the other way round is kept just where a bound of a number is not: at most c is 2c + 1, and less than -c is -2c.
func Not(b api.Bound) api.Bound { return 1 - b }

// Minus are the zones of one less another one: each bound that is not None turned round, and those ahead put, whether anything is left or not; and what follows of all that.
func Minus(a, b api.Zone) ([]api.Zone, api.Errno) {
	var l []api.Zone
	for i, limit := range b {
		if limit == api.None {
			continue
		}
		z, e := Follows(Put(a, i^1, min(a[i^1], Not(limit))))
		if e == api.ErrBad {
			return nil, e
		}
		if e == api.OK {
			l = append(l, z)
		}
		a = Put(a, i, min(a[i], limit))
		if _, e := Follows(a); e == api.ErrBad {
			return nil, e
		}
	}
	return l, api.OK
}

// Left are the zones of one less some, one after another; which error comes first within one step is not told.
func Left(a api.Zone, l []api.Zone) ([]api.Zone, api.Errno) {
	left := []api.Zone{a}
	for _, b := range l {
		var next []api.Zone
		for _, z := range left {
			more, e := Minus(z, b)
			if e != api.OK {
				return nil, e
			}
			next = append(next, more...)
		}
		if len(next) > api.MaxLeft {
			return nil, api.ErrMany
		}
		left = next
	}
	return left, api.OK
}

// Lattice is a zone, and those that cut it into so many columns and rows. Columns go down from the first one on, and so do rows in each; u has no end on either side. To turn it is to turn its signs: the last column, or turned the first one, goes on to 2^58 from 0.
func Lattice(columns, rows, sign int) (api.Zone, []api.Zone) {
	a := Starting(From(-Edge, 2*columns))
	if sign < 0 {
		a = Starting(From(-2*columns, Edge))
	}
	var l []api.Zone
	for i := range columns - 1 {
		l = append(l, Starting(From(sign*(2*i+1), sign*(2*i+1))))
	}
	for i := range rows - 1 {
		l = append(l, Ending(From(-sign*(2*i+1), -sign*(2*i+1))))
	}
	return a, l
}

// Line is what has too great numbers in the column of a lattice that goes on to 2^58, and cuts one row of each other one in two: the first one, or turned the last one.
func Line(sign int) api.Zone { return Ending(From(sign, sign)) }

// Net is a square without its sides, and those that cut it into 64 columns and 64 rows, all of them within it.
func Net() (a api.Zone, columns, rows []api.Zone) {
	open := Inside(-1, 127)
	for i := 1; i < 126; i += 2 {
		columns = append(columns, Square(From(i, i), open))
		rows = append(rows, Square(open, From(i, i)))
	}
	return Square(open, open), columns, rows
}

// Cell is the square of a net's column and row, without its sides.
func Cell(i, j int) api.Zone {
	return Square(Inside(2*i-1, 2*i+1), Inside(2*j-1, 2*j+1))
}

// Cut is what makes two zones of a net's cell, and turns nothing of the others.
func Cut(i, j int) api.Zone {
	return Square(Inside(2*i-1, 2*i+1), From(2*j, 2*j))
}

// Spoil changes zones, and what room there is behind them.
func Spoil(l []api.Zone) {
	l = l[:cap(l)]
	for i := range l {
		l[i] = api.Zone{-7, -7, -7, -7, -7, -7}
	}
}
