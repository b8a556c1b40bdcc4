// Package num is layer 1: see shared/doc/01-num.md.
package num

import (
	"iter"

	"rallentando/api"
)

// Check tells whether a number may be.
func Check(a int) api.Errno {
	if a < -api.MaxNum || a > api.MaxNum {
		return api.ErrOver
	}
	return api.OK
}

// Add is the sum of two.
func Add(a, b int) (int, api.Errno) {
	// Both are asked ahead of their sum: two that may be come to at most 2^62 either way, which no int wraps round at.
	if Check(a) != api.OK || Check(b) != api.OK || Check(a+b) != api.OK {
		return 0, api.ErrOver
	}
	return a + b, api.OK
}

// Sub is the difference of two.
func Sub(a, b int) (int, api.Errno) {
	less, e := Neg(b)
	if e != api.OK {
		return 0, e
	}
	return Add(a, less)
}

// Neg is 0 less a number.
func Neg(a int) (int, api.Errno) {
	// Asked ahead, since the least int is its own negative.
	if e := Check(a); e != api.OK {
		return 0, e
	}
	return -a, api.OK
}

// Sum is the sum of all.
func Sum(l ...int) (int, api.Errno) {
	all := 0
	for sum, e := range sums(l) {
		if e != api.OK {
			return 0, e
		}
		all = sum
	}
	return all, api.OK
}

// Clamp is the number itself, or the nearest one that may be.
func Clamp(a int) int {
	return max(-api.MaxNum, min(a, api.MaxNum))
}

// sums hands out the sums of the first one, of the first two and so on, up to the first error: each of them must be, not the last one alone.
func sums(l []int) iter.Seq2[int, api.Errno] {
	return func(yield func(int, api.Errno) bool) {
		sum, e := 0, api.OK
		for _, a := range l {
			sum, e = Add(sum, a)
			if !yield(sum, e) || e != api.OK {
				return
			}
		}
	}
}
