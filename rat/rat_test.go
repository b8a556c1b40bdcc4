package rat_test

import (
	"math"
	"math/big"
	"testing"

	"rallentando/api"
	"rallentando/bound"
	"rallentando/rat"
)

const (
	top   = 1 << 61
	den   = 1 << 20
	least = math.MinInt
	great = math.MaxInt
)

// The calls, with the chapter's signatures.
var (
	_ func(api.Rat) api.Errno                             = rat.Check
	_ func(int, int) (api.Rat, api.Errno)                 = rat.Of
	_ func(api.Rat, api.Rat) (int, api.Errno)             = rat.Cmp
	_ func(api.Rat, api.Rat) (api.Rat, api.Errno)         = rat.Add
	_ func(api.Rat, api.Rat) (api.Rat, api.Errno)         = rat.Mid
	_ func(api.Rat, api.Rat, api.Bound) (bool, api.Errno) = rat.Keeps
	_ func(api.Rat) (int, bool, api.Errno)                = rat.Floor
)

// dens are those that may be, at both edges and between, and those that may not.
func dens() []int {
	return []int{1, 2, 3, 4, 5, 6, 1000, 999983, den - 1, den, den + 1, 2 * den, top, great - 1, great, 0, -1, -2, -den, least, least + 1}
}

// nums are ordinary ones, those around -2^61 and 2^61 times a Den, as far as ints go, and the least and the greatest int.
func nums(d int) []int {
	l := []int{0, 1, -1, 2, -2, 3, -3, 6, -10, 77, -1000003, 2 * top, -2 * top, 3*top + 1, least, least + 1, least + 2, great - 2, great - 1, great}
	for _, side := range []int64{top, -top} {
		edge := new(big.Int).Mul(big.NewInt(side), exact(d))
		for _, more := range []int64{-2, -1, 0, 1, 2} {
			if n := new(big.Int).Add(edge, big.NewInt(more)); n.IsInt64() {
				l = append(l, int(n.Int64()))
			}
		}
	}
	return l
}

// all are fractions of all kinds, those that may not be among them.
func all() []api.Rat {
	var l []api.Rat
	for _, d := range dens() {
		for _, n := range nums(d) {
			l = append(l, by(n, d))
		}
	}
	return l
}

// good are those of all that may be.
func good() []api.Rat {
	var l []api.Rat
	for _, a := range all() {
		if mayBe(a) {
			l = append(l, a)
		}
	}
	return l
}

// bad are some of those that may not be: by Den, by size, by a common divisor.
func bad() []api.Rat {
	return []api.Rat{{}, by(1, 0), by(1, -1), by(-1, -2), by(1, den+1), by(1, great), by(1, least), by(least, least), by(great, great),
		by(top+1, 1), by(-top-1, 1), by(2*top+1, 2), by(-2*top-1, 2), by(3*top+1, 3), by(great, 1), by(least, 1), by(least, 3), by(great, 3),
		by(0, 2), by(0, den), by(2, 2), by(-6, 4), by(2, den), by(least, 4), by(least, den), by(great-1, 2)}
}

// by is a fraction as it is written, whether it may be or not.
func by(n, d int) api.Rat { return api.Rat{Num: n, Den: d} }

func exact(a int) *big.Int { return big.NewInt(int64(a)) }

// value is a fraction, exactly.
func value(a api.Rat) *big.Rat { return new(big.Rat).SetFrac(exact(a.Num), exact(a.Den)) }

// within tells whether a number of any size is from -2^61 to 2^61.
func within(r *big.Rat) bool {
	return new(big.Rat).Abs(r).Cmp(new(big.Rat).SetInt64(top)) <= 0
}

// mayBe is what the chapter says of fractions that may be, by numbers of any size.
func mayBe(a api.Rat) bool {
	if a.Den < 1 || a.Den > den || !within(value(a)) {
		return false
	}
	// In lowest terms already, if big.Rat, which keeps all in these, leaves the Den as it was.
	return value(a).Denom().Cmp(exact(a.Den)) == 0
}

// told is what is to be answered of an exact number: big.Rat keeps it in lowest terms.
func told(r *big.Rat) (api.Rat, api.Errno) {
	if !r.Num().IsInt64() || !r.Denom().IsInt64() || r.Denom().Int64() > den || !within(r) {
		return api.Rat{}, api.ErrOver
	}
	return by(int(r.Num().Int64()), int(r.Denom().Int64())), api.OK
}

func TestCheck(t *testing.T) { // P3.1
	for _, a := range []api.Rat{
		by(0, 1), by(1, 1), by(-1, 1), by(3, 2), by(-3, 2), by(1, den), by(-1, den), by(1, den-1), by(den, den-1), by(5, 999983),
		// Num by Den just at the edges, or just within.
		by(top, 1), by(-top, 1), by(top-1, 1), by(2*top-1, 2), by(-2*top+1, 2), by(3*top-1, 3), by(-3*top+1, 3),
		// Num far beyond 2^61, up to the greatest and the least int.
		by(great, 4), by(great, 5), by(great, den), by(great, den-1), by(least+1, 4), by(least, 5), by(least, den-1), by(least+1, den),
	} {
		if e := rat.Check(a); e != api.OK {
			t.Errorf("Check(%v) = %d, want OK", a, e)
		}
	}
	for _, a := range bad() {
		if e := rat.Check(a); e != api.ErrBad {
			t.Errorf("Check(%v) = %d, want ErrBad", a, e)
		}
	}
	for _, a := range all() {
		want := api.ErrBad
		if mayBe(a) {
			want = api.OK
		}
		if e := rat.Check(a); e != want {
			t.Errorf("Check(%v) = %d, want %d", a, e, want)
		}
	}
}

func TestOf(t *testing.T) { // P3.1
	for _, c := range []struct {
		num, den int
		want     api.Rat
		e        api.Errno
	}{
		{6, 4, by(3, 2), api.OK}, {-6, 4, by(-3, 2), api.OK}, {3, 2, by(3, 2), api.OK}, {8, 4, by(2, 1), api.OK},
		// 0 is 0 by 1, whatever it is divided by.
		{0, 1, by(0, 1), api.OK}, {0, 7, by(0, 1), api.OK}, {0, 2 * den, by(0, 1), api.OK}, {0, great, by(0, 1), api.OK},
		// Below 1 is told ahead of all else.
		{1, 0, api.Rat{}, api.ErrZero}, {0, 0, api.Rat{}, api.ErrZero}, {1, -1, api.Rat{}, api.ErrZero}, {-6, -4, api.Rat{}, api.ErrZero}, {great, 0, api.Rat{}, api.ErrZero}, {great, -1, api.Rat{}, api.ErrZero}, {least, -1, api.Rat{}, api.ErrZero}, {least, least, api.Rat{}, api.ErrZero}, {1, least, api.Rat{}, api.ErrZero},
		// The Den counts in lowest terms.
		{1, den, by(1, den), api.OK}, {1, den + 1, api.Rat{}, api.ErrOver}, {1, 2 * den, api.Rat{}, api.ErrOver}, {2, 2 * den, by(1, den), api.OK}, {-6, 6 * den, by(-1, den), api.OK}, {top, 2 * top, by(1, 2), api.OK}, {1, great, api.Rat{}, api.ErrOver}, {great, great, by(1, 1), api.OK}, {great - 1, great, api.Rat{}, api.ErrOver}, {least + 1, great, by(-1, 1), api.OK}, {least, great, api.Rat{}, api.ErrOver}, {least, 2 * top, by(-2, 1), api.OK},
		// So does the size.
		{top, 1, by(top, 1), api.OK}, {top + 1, 1, api.Rat{}, api.ErrOver}, {-top, 1, by(-top, 1), api.OK}, {-top - 1, 1, api.Rat{}, api.ErrOver}, {2*top - 1, 2, by(2*top-1, 2), api.OK}, {2*top + 1, 2, api.Rat{}, api.ErrOver}, {-2*top - 1, 2, api.Rat{}, api.ErrOver}, {2*top + 2, 2, api.Rat{}, api.ErrOver}, {2 * top, 2, by(top, 1), api.OK},
		{least, 4, by(-top, 1), api.OK}, {least, 1, api.Rat{}, api.ErrOver}, {least, 2, api.Rat{}, api.ErrOver}, {least, 3, api.Rat{}, api.ErrOver}, {least, 5, by(least, 5), api.OK}, {great, 3, api.Rat{}, api.ErrOver}, {great, 4, by(great, 4), api.OK}, {great, 7, by(great/7, 1), api.OK},
	} {
		if a, e := rat.Of(c.num, c.den); a != c.want || e != c.e {
			t.Errorf("Of(%d, %d) = %v, %d, want %v, %d", c.num, c.den, a, e, c.want, c.e)
		}
	}
}

func TestOfAtEdges(t *testing.T) { // P3.1
	for _, c := range all() {
		var w api.Rat
		f := api.ErrZero
		if c.Den >= 1 {
			w, f = told(value(c))
		}
		a, e := rat.Of(c.Num, c.Den)
		if a != w || e != f {
			t.Errorf("Of(%d, %d) = %v, %d, want %v, %d", c.Num, c.Den, a, e, w, f)
		}
		if e == api.OK && rat.Check(a) != api.OK {
			t.Errorf("Of(%d, %d) = %v, which may not be", c.Num, c.Den, a)
		}
	}
}

func TestCmp(t *testing.T) { // P3.2
	for _, c := range []struct {
		a, b api.Rat
		want int
	}{
		{by(1, 3), by(1, 2), -1}, {by(2, 1), by(2, 1), 0}, {by(-1, 3), by(-1, 2), 1}, {by(-1, den), by(0, 1), -1}, {by(1, den), by(1, den-1), -1}, {by(-top, 1), by(top, 1), -1},
		// Products that no int holds: the words above tell, then those below; a product that wraps round would turn each of these.
		{by(great, den), by(great, den-1), -1}, {by(least+1, den), by(least+1, den-1), 1}, {by(great, 4), by(top, 1), -1}, {by(great, 4), by(top-1, 1), 1}, {by(least, 5), by(great, 5), -1}, {by(least, 5), by(least+1, 5), -1}, {by(great, den), by(great-2, den), 1}, {by(great, den), by(great, den), 0},
	} {
		if n, e := rat.Cmp(c.a, c.b); n != c.want || e != api.OK {
			t.Errorf("Cmp(%v, %v) = %d, %d, want %d", c.a, c.b, n, e, c.want)
		}
		if n, e := rat.Cmp(c.b, c.a); n != -c.want || e != api.OK {
			t.Errorf("Cmp(%v, %v) = %d, %d, want %d", c.b, c.a, n, e, -c.want)
		}
	}
	for _, a := range good() {
		for _, b := range good() {
			if n, e := rat.Cmp(a, b); n != value(a).Cmp(value(b)) || e != api.OK {
				t.Errorf("Cmp(%v, %v) = %d, %d", a, b, n, e)
			}
		}
	}
}

func TestFloor(t *testing.T) { // P3.2
	for _, c := range []struct {
		a     api.Rat
		n     int
		whole bool
	}{
		{by(-3, 2), -2, false}, {by(3, 2), 1, false}, {by(2, 1), 2, true}, {by(0, 1), 0, true}, {by(-2, 1), -2, true}, {by(1, den), 0, false}, {by(-1, den), -1, false},
		{by(top, 1), top, true}, {by(-top, 1), -top, true}, {by(2*top-1, 2), top - 1, false}, {by(-2*top+1, 2), -top, false},
		{by(great, 4), top - 1, false}, {by(least+1, 4), -top, false}, {by(least, 5), least/5 - 1, false}, {by(great, den), great >> 20, false},
	} {
		if n, whole, e := rat.Floor(c.a); n != c.n || whole != c.whole || e != api.OK {
			t.Errorf("Floor(%v) = %d, %t, %d, want %d, %t", c.a, n, whole, e, c.n, c.whole)
		}
	}
	for _, a := range good() {
		n, whole, e := rat.Floor(a)
		w := new(big.Int).Div(exact(a.Num), exact(a.Den)) // Euclid's: downwards, since Den is from 1 on
		if exact(n).Cmp(w) != 0 || whole != value(a).IsInt() || e != api.OK {
			t.Errorf("Floor(%v) = %d, %t, %d, want %d", a, n, whole, e, w)
		}
	}
}

func TestKeeps(t *testing.T) { // P3.2
	half, one, third := by(1, 2), by(1, 1), by(1, 3)
	high, low := by(top, 1), by(-top, 1)
	for _, c := range []struct {
		a, b api.Rat
		x    api.Bound
		want bool
	}{
		{by(5, 2), half, 5, true}, {by(5, 2), half, 4, false}, {half, by(5, 2), -3, true}, {half, by(5, 2), -4, false}, {half, half, 1, true}, {half, half, 0, false}, {half, third, 1, false}, {third, half, 0, true}, {one, half, 1, false}, {one, half, 2, true}, {half, one, -1, false}, {half, one, 0, true},
		// Any keeps None, whatever the difference is.
		{half, third, api.None, true}, {high, low, api.None, true}, {low, high, api.None, true},
		// A difference may be beyond 2^61, which no bound says.
		{high, low, 2*top + 1, false}, {high, low, 2 * top, false}, {low, high, -2*top + 1, true}, {low, high, -2 * top, true}, {low, high, 2*top + 1, true}, {high, low, -2 * top, false}, {high, by(-1, den), 2*top + 1, false}, {high, by(1, den), 2*top + 1, true}, {high, by(1, den), 2 * top, true}, {low, by(1, den), -2 * top, true}, {low, by(-1, den), -2*top + 1, false},
		{high, by(0, 1), 2*top + 1, true}, {high, by(0, 1), 2 * top, false}, {low, by(0, 1), -2*top + 1, true}, {low, by(0, 1), -2 * top, false},
		// Products that no int holds.
		{by(great, den), by(great, den-1), 1, true}, {by(great, den-1), by(great, den), 1, false}, {by(great, den), by(least+1, den), 2 << 44, true}, {by(great, den), by(least+1, den), 2<<44 - 1, false},
	} {
		if k, e := rat.Keeps(c.a, c.b, c.x); k != c.want || e != api.OK {
			t.Errorf("Keeps(%v, %v, %d) = %t, %d, want %t", c.a, c.b, c.x, k, e, c.want)
		}
	}
}

// around are the bounds next to a difference, as far as such may be, and those at the edges.
func around(a, b api.Rat) []api.Bound {
	l := []api.Bound{api.None, 2*top + 1, 2 * top, 2*top - 1, 0, 1, -1, -2 * top, -2*top + 1, -2*top + 2}
	d := new(big.Rat).Sub(value(a), value(b))
	floor := new(big.Int).Div(d.Num(), d.Denom())
	for x := -2; x <= 4; x++ {
		if c := new(big.Int).Add(new(big.Int).Lsh(floor, 1), exact(x)); c.IsInt64() && bound.Check(api.Bound(c.Int64())) == api.OK {
			l = append(l, api.Bound(c.Int64()))
		}
	}
	return l
}

// wantKeeps is what the chapter says of Keeps, by exact numbers.
func wantKeeps(a, b api.Rat, x api.Bound) bool {
	if x == api.None {
		return true
	}
	side := new(big.Rat).Sub(value(a), value(b)).Cmp(new(big.Rat).SetInt64(int64(x >> 1)))
	return side < 0 || side == 0 && x&1 == 1
}

func TestKeepsAtEdges(t *testing.T) { // P3.2
	for _, a := range good() {
		for _, b := range good() {
			for _, x := range around(a, b) {
				w := wantKeeps(a, b, x)
				if k, e := rat.Keeps(a, b, x); k != w || e != api.OK {
					t.Errorf("Keeps(%v, %v, %d) = %t, %d, want %t", a, b, x, k, e, w)
				}
			}
		}
	}
}

func TestWhatMayNotBe(t *testing.T) { // P3.2, and P3.3: ErrBad comes ahead of ErrOver, and all else is zero
	a := by(top, 1) // with itself its sum is beyond what may be
	for _, b := range bad() {
		for _, c := range [][2]api.Rat{{a, b}, {b, a}, {b, b}} {
			if n, e := rat.Cmp(c[0], c[1]); n != 0 || e != api.ErrBad {
				t.Errorf("Cmp(%v) = %d, %d", c, n, e)
			}
			if r, e := rat.Add(c[0], c[1]); r != (api.Rat{}) || e != api.ErrBad {
				t.Errorf("Add(%v) = %v, %d", c, r, e)
			}
			if r, e := rat.Mid(c[0], c[1]); r != (api.Rat{}) || e != api.ErrBad {
				t.Errorf("Mid(%v) = %v, %d", c, r, e)
			}
			for _, x := range []api.Bound{api.None, 0, 2*top + 1, 2*top + 2, least} {
				if k, e := rat.Keeps(c[0], c[1], x); k || e != api.ErrBad {
					t.Errorf("Keeps(%v, %d) = %t, %d", c, x, k, e)
				}
			}
		}
		if n, whole, e := rat.Floor(b); n != 0 || whole || e != api.ErrBad {
			t.Errorf("Floor(%v) = %d, %t, %d", b, n, whole, e)
		}
	}
	for _, x := range []api.Bound{2*top + 2, 2*top + 3, -2*top - 1, -2*top - 2, api.None - 1, least, least + 1} {
		if k, e := rat.Keeps(a, a, x); k || e != api.ErrBad {
			t.Errorf("Keeps of %d = %t, %d", x, k, e)
		}
	}
}

func TestAdd(t *testing.T) { // P3.3
	over := api.Rat{}
	for _, c := range []struct {
		a, b, sum api.Rat
	}{
		{by(1, 3), by(1, 6), by(1, 2)}, {by(1, 2), by(-1, 2), by(0, 1)}, {by(-1, 3), by(-1, 2), by(-5, 6)}, {by(3, 1), by(-5, 1), by(-2, 1)},
		// The Den, in lowest terms, may be up to 2^20.
		{by(1, den), by(1, den), by(1, den/2)}, {by(1, den), by(-1, den), by(0, 1)}, {by(1, den), by(1, 2), by(den/2+1, den)}, {by(1, den), by(1, 3), over}, {by(1, den), by(1, den-1), over}, {by(1, 1<<10), by(1, 1<<10-1), by(1<<11-1, den-1<<10)}, {by(1, 1<<10), by(1, 1<<10+1), over},
		// The size, at both edges.
		{by(top-1, 1), by(1, 1), by(top, 1)}, {by(top, 1), by(1, 1), over}, {by(top, 1), by(1, den), over}, {by(top, 1), by(-1, 2), by(2*top-1, 2)}, {by(-top, 1), by(-1, 2), over}, {by(-top, 1), by(1, 2), by(-2*top+1, 2)}, {by(top, 1), by(top, 1), over}, {by(top, 1), by(-top, 1), by(0, 1)}, {by(-top, 1), by(-top, 1), over}, {by(2*top-1, 2), by(1, 2), by(top, 1)},
		// Num, just at what an int holds and just beyond, within 2^61 all the while.
		{by(great-5, 5), by(1, 1), by(great, 5)}, {by(great-4, 5), by(1, 1), over}, {by(least+5, 5), by(-1, 1), by(least, 5)}, {by(least+4, 5), by(-1, 1), over}, {by(least, 5), by(-1, 1), over}, {by(least, 5), by(great, 5), by(-1, 5)},
		// The same, by a Den that is made greater.
		{by(great, 5), by(1, 3), over}, {by(great, den), by(great, den), by(great, den/2)}, {by(top, 1), by(-1, 8), over}, {by(top, 1), by(-1, 4), by(great, 4)}, {by(-top, 1), by(1, 4), by(least+1, 4)},
	} {
		want := api.OK
		if c.sum == over {
			want = api.ErrOver
		}
		for _, p := range [][2]api.Rat{{c.a, c.b}, {c.b, c.a}} {
			if r, e := rat.Add(p[0], p[1]); r != c.sum || e != want {
				t.Errorf("Add(%v) = %v, %d, want %v, %d", p, r, e, c.sum, want)
			}
		}
	}
}

func TestMid(t *testing.T) { // P3.3
	over := api.Rat{}
	for _, c := range []struct {
		a, b, mid api.Rat
	}{
		{by(0, 1), by(1, 1), by(1, 2)}, {by(1, 3), by(1, 2), by(5, 12)}, {by(-1, 1), by(1, 1), by(0, 1)}, {by(-3, 1), by(0, 1), by(-3, 2)}, {by(5, 7), by(5, 7), by(5, 7)},
		// The sum is beyond what may be, the middle is not.
		{by(top, 1), by(top, 1), by(top, 1)}, {by(-top, 1), by(-top, 1), by(-top, 1)}, {by(top, 1), by(top-1, 1), by(2*top-1, 2)}, {by(-top, 1), by(top, 1), by(0, 1)}, {by(great, den), by(great, den), by(great, den)}, {by(least, 5), by(least, 5), by(least, 5)},
		// The Den is up to 2^20, or beyond.
		{by(0, 1), by(1, den/2), by(1, den)}, {by(0, 1), by(1, den), over}, {by(1, den), by(3, den), by(1, den/2)}, {by(0, 1), by(1, den-1), over}, {by(1, den-1), by(1, den), over},
		// Num is what an int holds, or beyond.
		{by(great, 5), by(1, 3), over}, {by(great, 4), by(top, 1), over}, {by(2*top-1, 2), by(top, 1), by(great, 4)}, {by(-2*top+1, 2), by(-top, 1), by(least+1, 4)}, {by(great, 5), by(great-1, 5), over}, {by(least, 5), by(least+2, 5), by(least+1, 5)},
	} {
		want := api.OK
		if c.mid == over {
			want = api.ErrOver
		}
		for _, p := range [][2]api.Rat{{c.a, c.b}, {c.b, c.a}} {
			if r, e := rat.Mid(p[0], p[1]); r != c.mid || e != want {
				t.Errorf("Mid(%v) = %v, %d, want %v, %d", p, r, e, c.mid, want)
			}
		}
	}
}

func TestAddAndMidAtEdges(t *testing.T) { // P3.3
	half := big.NewRat(1, 2)
	for _, a := range good() {
		for _, b := range good() {
			sum := new(big.Rat).Add(value(a), value(b))
			w, f := told(sum)
			if r, e := rat.Add(a, b); r != w || e != f {
				t.Errorf("Add(%v, %v) = %v, %d, want %v, %d", a, b, r, e, w, f)
			}
			w, f = told(sum.Mul(sum, half))
			if r, e := rat.Mid(a, b); r != w || e != f {
				t.Errorf("Mid(%v, %v) = %v, %d, want %v, %d", a, b, r, e, w, f)
			}
		}
	}
}

func TestAddAndMidOfSmallOnes(t *testing.T) { // P3.1 to P3.3, of ordinary ones
	var l []api.Rat
	for d := 1; d <= 8; d++ {
		for n := -17; n <= 17; n++ {
			a, e := rat.Of(n, d)
			if w, _ := told(big.NewRat(int64(n), int64(d))); a != w || e != api.OK {
				t.Fatalf("Of(%d, %d) = %v, %d", n, d, a, e)
			}
			l = append(l, a)
		}
	}
	for _, a := range l {
		for _, b := range l {
			sum := new(big.Rat).Add(value(a), value(b))
			w, _ := told(sum)
			if r, e := rat.Add(a, b); r != w || e != api.OK {
				t.Fatalf("Add(%v, %v) = %v, %d", a, b, r, e)
			}
			w, _ = told(sum.Mul(sum, big.NewRat(1, 2)))
			if r, e := rat.Mid(a, b); r != w || e != api.OK {
				t.Fatalf("Mid(%v, %v) = %v, %d", a, b, r, e)
			}
			if n, e := rat.Cmp(a, b); n != value(a).Cmp(value(b)) || e != api.OK {
				t.Fatalf("Cmp(%v, %v) = %d, %d", a, b, n, e)
			}
			for x := api.Bound(-9); x <= 9; x++ {
				if k, e := rat.Keeps(a, b, x); k != wantKeeps(a, b, x) || e != api.OK {
					t.Fatalf("Keeps(%v, %v, %d) = %t, %d", a, b, x, k, e)
				}
			}
		}
	}
}

// answers are all that is said of two fractions and a bound.
type answers struct {
	of, sum, mid api.Rat
	cmp, floor   int
	keeps, whole bool
	e            [7]api.Errno
}

func ask(a, b api.Rat, x api.Bound) answers {
	var l answers
	l.e[0] = rat.Check(a)
	l.of, l.e[1] = rat.Of(a.Num, a.Den)
	l.cmp, l.e[2] = rat.Cmp(a, b)
	l.sum, l.e[3] = rat.Add(a, b)
	l.mid, l.e[4] = rat.Mid(a, b)
	l.keeps, l.e[5] = rat.Keeps(a, b, x)
	l.floor, l.whole, l.e[6] = rat.Floor(a)
	return l
}

func TestAnswersHangOnArgumentsAlone(t *testing.T) { // P3.4, P2
	l := all()
	xs := []api.Bound{api.None, 0, 1, 7, -2 * top, 2*top + 1, 2*top + 2, least}
	var first []answers
	for i := range l {
		for j := range l {
			first = append(first, ask(l[i], l[j], xs[(i+j)%len(xs)]))
		}
	}
	// Once more, from the end: neither what was asked ahead nor how often turns an answer.
	for k := len(first) - 1; k >= 0; k-- {
		i, j := k/len(l), k%len(l)
		if again := ask(l[i], l[j], xs[(i+j)%len(xs)]); again != first[k] {
			t.Fatalf("of %v, %v: %v, then %v", l[i], l[j], first[k], again)
		}
	}
}

func TestZeroBesideErrors(t *testing.T) { // P1: none panics, and beside an error all else is zero
	for _, a := range all() {
		for _, b := range all() {
			l := ask(a, b, 7)
			none := api.Rat{}
			switch {
			case l.e[1] != api.OK && l.of != none, l.e[2] != api.OK && l.cmp != 0, l.e[3] != api.OK && l.sum != none,
				l.e[4] != api.OK && l.mid != none, l.e[5] != api.OK && l.keeps, l.e[6] != api.OK && (l.floor != 0 || l.whole):
				t.Errorf("of %v, %v: %v", a, b, l)
			}
			if both := mayBe(a) && mayBe(b); both != (l.e[2] == api.OK) || !both && (l.e[2] != api.ErrBad || l.e[3] != api.ErrBad || l.e[4] != api.ErrBad || l.e[5] != api.ErrBad) {
				t.Errorf("errors of %v, %v: %v", a, b, l.e)
			}
		}
	}
}

// few are some that may be, of all sizes, for what takes three at once.
func few() []api.Rat {
	return []api.Rat{by(0, 1), by(1, 1), by(-2, 1), by(1, 2), by(-3, 2), by(1, 3), by(7, 12), by(1, den), by(-1, den-1), by(top, 1), by(-top, 1), by(top-1, 1), by(1-top, 1), by(2*top-1, 2), by(great, 4), by(great, 5), by(least, 5), by(great, den), by(least+1, den), by(top/2+1, 1), by(-top/2, 1)}
}

func TestOrderIsKeptBySums(t *testing.T) { // P3.5
	for _, a := range few() {
		for _, b := range few() {
			n, _ := rat.Cmp(a, b)
			for _, c := range few() {
				p, e := rat.Add(a, c)
				q, f := rat.Add(b, c)
				if e != api.OK || f != api.OK {
					continue
				}
				if m, e := rat.Cmp(p, q); m != n || e != api.OK {
					t.Errorf("%v and %v: %d; with %v more: %d, %d", a, b, n, c, m, e)
				}
			}
		}
	}
}

func TestMiddleLiesBetween(t *testing.T) { // P3.5
	for _, a := range good() {
		for _, b := range good() {
			m, e := rat.Mid(a, b)
			if e != api.OK {
				continue
			}
			n, _ := rat.Cmp(a, b)
			p, _ := rat.Cmp(a, m)
			q, _ := rat.Cmp(m, b)
			if p != n || q != n {
				t.Errorf("the middle of %v and %v: %v", a, b, m)
			}
			if new(big.Rat).Sub(value(m), value(a)).Cmp(new(big.Rat).Sub(value(b), value(m))) != 0 {
				t.Errorf("the middle of %v and %v: %v, not as far from one as from the other", a, b, m)
			}
		}
	}
}

func TestAtMostNoughtIsOrder(t *testing.T) { // P3.5: a difference keeps at most 0 just if the first one is at most the second one
	most, _ := bound.Most(0)
	less, _ := bound.Less(0)
	for _, a := range good() {
		for _, b := range good() {
			n, _ := rat.Cmp(a, b)
			if k, e := rat.Keeps(a, b, most); k != (n <= 0) || e != api.OK {
				t.Errorf("%v less %v at most 0: %t, %d; Cmp: %d", a, b, k, e, n)
			}
			if k, e := rat.Keeps(a, b, less); k != (n < 0) || e != api.OK {
				t.Errorf("%v less %v less than 0: %t, %d; Cmp: %d", a, b, k, e, n)
			}
		}
	}
}

func TestWholeNumbersKeepAsBoundsHaveIt(t *testing.T) { // P3.5
	for _, n := range []int{0, 1, -1, 5, -77, top, top - 1, -top, 1 - top, top / 2} {
		for _, m := range []int{0, 2, -3, top / 2, -top / 2, top, -top} {
			a, _ := rat.Of(n, 1)
			b, _ := rat.Of(m, 1)
			for _, x := range around(a, b) {
				w, f := bound.Keeps(n-m, x)
				if f != api.OK {
					continue // chapter 2 takes no difference beyond 2^61
				}
				if k, e := rat.Keeps(a, b, x); k != w || e != api.OK {
					t.Errorf("Keeps(%v, %v, %d) = %t, %d, and bound's %t", a, b, x, k, e, w)
				}
			}
		}
	}
}
