package rat

import "math/bits"

// wide is a whole number of two words: high times 2^64, and low more. What is made of two fractions and a bound is at most 2^101, either way.
type wide struct {
	high int
	low  uint64
}

// times is the product of a number, and one from 1 on.
func times(a, b int) wide {
	high, low := bits.Mul64(uint64(a), uint64(b))
	// A number below 0, read as a word, is 2^64 more than it is.
	if a < 0 {
		high -= uint64(b)
	}
	return wide{high: int(high), low: low}
}

func (v wide) plus(w wide) wide {
	low, carry := bits.Add64(v.low, w.low, 0)
	return wide{high: v.high + w.high + int(carry), low: low}
}

func (v wide) minus(w wide) wide {
	low, borrow := bits.Sub64(v.low, w.low, 0)
	return wide{high: v.high - w.high - int(borrow), low: low}
}

func (v wide) less(w wide) bool {
	return v.high < w.high || v.high == w.high && v.low < w.low
}

// by is the greatest whole number that is at most v by b, which is from 1 on, and what is left, from 0 on.
func (v wide) by(b int) (wide, int) {
	high, left := split(v.high, b)
	low, rest := bits.Div64(uint64(left), v.low, uint64(b))
	return wide{high: high, low: low}, int(rest)
}

// number is v as an int, and whether an int holds it: then high has nothing but low's sign.
func (v wide) number() (int, bool) {
	n := int(v.low)
	if n < 0 {
		return n, v.high == -1
	}
	return n, v.high == 0
}
