package num_test

import (
	"math"
	"math/big"
	"slices"
	"testing"

	"rallentando/api"
	"rallentando/num"
)

const top = 1 << 61

// The calls, with the chapter's signatures.
var (
	_ func(int) api.Errno             = num.Check
	_ func(int, int) (int, api.Errno) = num.Add
	_ func(int, int) (int, api.Errno) = num.Sub
	_ func(int) (int, api.Errno)      = num.Neg
	_ func(...int) (int, api.Errno)   = num.Sum
	_ func(int) int                   = num.Clamp
)

// edges are ordinary numbers, those around -2^61, -2^60, 0, 2^60 and 2^61, those whose sums wrap round, and the least and the greatest int.
func edges() []int {
	var l []int
	for _, a := range []int{-3 * top, -2 * top, -top, -top / 2, 0, top / 2, top, 2 * top, 3 * top} {
		for d := -2; d <= 2; d++ {
			l = append(l, a+d)
		}
	}
	return append(l, -1000003, -77, 5, 42, 99999, math.MinInt, math.MinInt+1, math.MaxInt-1, math.MaxInt)
}

// mayBe asks by numbers of any size, so that nothing wraps round here.
func mayBe(a *big.Int) bool {
	return a.CmpAbs(new(big.Int).Lsh(big.NewInt(1), 61)) <= 0
}

func exact(a int) *big.Int { return big.NewInt(int64(a)) }

// want is what is to be answered of a number that is exact, where all that came ahead may be.
func want(a *big.Int, well bool) (int, api.Errno) {
	if !well || !mayBe(a) {
		return 0, api.ErrOver
	}
	return int(a.Int64()), api.OK
}

// wantSum is what the chapter says of Sum, by exact numbers.
func wantSum(l []int) (int, api.Errno) {
	sum, well := new(big.Int), true
	for _, a := range l {
		sum.Add(sum, exact(a))
		well = well && mayBe(exact(a)) && mayBe(sum)
	}
	return want(sum, well)
}

func TestCheck(t *testing.T) { // P1.1
	for _, c := range []struct {
		a int
		e api.Errno
	}{
		{0, api.OK}, {1, api.OK}, {-1, api.OK}, {12345, api.OK},
		{top, api.OK}, {top - 1, api.OK}, {-top, api.OK}, {1 - top, api.OK},
		{top + 1, api.ErrOver}, {-top - 1, api.ErrOver}, {2 * top, api.ErrOver}, {-2 * top, api.ErrOver},
		{math.MinInt, api.ErrOver}, {math.MaxInt, api.ErrOver},
	} {
		if e := num.Check(c.a); e != c.e {
			t.Errorf("Check(%d) = %d, want %d", c.a, e, c.e)
		}
	}
	for _, a := range edges() {
		if _, w := want(exact(a), true); num.Check(a) != w {
			t.Errorf("Check(%d) = %d, want %d", a, num.Check(a), w)
		}
	}
}

func TestAddSubExamples(t *testing.T) { // P1.1, the chapter's examples
	if n, e := num.Add(2, -5); n != -3 || e != api.OK {
		t.Error("Add 2, -5:", n, e)
	}
	if n, e := num.Add(top, 1); n != 0 || e != api.ErrOver {
		t.Error("Add 2^61, 1:", n, e)
	}
	if n, e := num.Sub(-top, 1); n != 0 || e != api.ErrOver {
		t.Error("Sub -2^61, 1:", n, e)
	}
	// A sum, or a difference, that may be does not help, if one of both may not.
	if n, e := num.Add(top+1, -1); n != 0 || e != api.ErrOver {
		t.Error("Add 2^61 + 1, -1:", n, e)
	}
	if n, e := num.Sub(-1, -top-1); n != 0 || e != api.ErrOver {
		t.Error("Sub -1, -2^61 - 1:", n, e)
	}
	// Both sums wrap round to 0.
	if n, e := num.Add(math.MinInt, math.MinInt); n != 0 || e != api.ErrOver {
		t.Error("Add of the least int, twice:", n, e)
	}
	if n, e := num.Add(2*top, 2*top); n != 0 || e != api.ErrOver {
		t.Error("Add 2^62, 2^62:", n, e)
	}
}

func TestAddSubAtEdges(t *testing.T) { // P1.1, and P1.4: the sum, or ErrOver, never another number
	for _, a := range edges() {
		for _, b := range edges() {
			both := mayBe(exact(a)) && mayBe(exact(b))
			w, f := want(new(big.Int).Add(exact(a), exact(b)), both)
			if n, e := num.Add(a, b); n != w || e != f {
				t.Errorf("Add(%d, %d) = %d, %d, want %d, %d", a, b, n, e, w, f)
			}
			w, f = want(new(big.Int).Sub(exact(a), exact(b)), both)
			if n, e := num.Sub(a, b); n != w || e != f {
				t.Errorf("Sub(%d, %d) = %d, %d, want %d, %d", a, b, n, e, w, f)
			}
		}
	}
}

func TestNeg(t *testing.T) { // P1.1
	for _, c := range []struct {
		a, n int
		e    api.Errno
	}{
		{0, 0, api.OK}, {7, -7, api.OK}, {-7, 7, api.OK}, {top, -top, api.OK}, {-top, top, api.OK},
		{top + 1, 0, api.ErrOver}, {-top - 1, 0, api.ErrOver}, {math.MinInt, 0, api.ErrOver}, {math.MaxInt, 0, api.ErrOver},
	} {
		if n, e := num.Neg(c.a); n != c.n || e != c.e {
			t.Errorf("Neg(%d) = %d, %d, want %d, %d", c.a, n, e, c.n, c.e)
		}
	}
	for _, a := range edges() {
		w, f := want(new(big.Int).Neg(exact(a)), mayBe(exact(a)))
		if n, e := num.Neg(a); n != w || e != f {
			t.Errorf("Neg(%d) = %d, %d, want %d, %d", a, n, e, w, f)
		}
	}
}

func TestSumExamples(t *testing.T) { // P1.2
	for _, c := range []struct {
		l []int
		n int
		e api.Errno
	}{
		{nil, 0, api.OK}, {[]int{}, 0, api.OK}, {[]int{3}, 3, api.OK}, {[]int{-top}, -top, api.OK}, {[]int{1, 2, 3, -10}, -4, api.OK},
		{[]int{top, -1, 1}, top, api.OK}, {[]int{top, 1, -1}, 0, api.ErrOver}, {[]int{-1, -top, 1}, 0, api.ErrOver},
		{[]int{top / 2, top / 2, -top, -top}, -top, api.OK}, {[]int{top / 2, top/2 + 1, -top, -top}, 0, api.ErrOver},
		// Each sum of the first ones may be, one number may not.
		{[]int{-top, top + 1}, 0, api.ErrOver}, {[]int{top, -top - 1, 1}, 0, api.ErrOver}, {[]int{top + 1}, 0, api.ErrOver},
		// The last one is asked for, too; what is wrong is not made good by what comes behind.
		{[]int{1, 2, math.MaxInt}, 0, api.ErrOver}, {[]int{math.MinInt, 5, 6}, 0, api.ErrOver}, {[]int{5, math.MaxInt, 6}, 0, api.ErrOver},
		// Wraps round to a number that may be.
		{[]int{top, top, top, top, top, top, top, top}, 0, api.ErrOver}, {[]int{2 * top, 2 * top}, 0, api.ErrOver},
	} {
		if n, e := num.Sum(c.l...); n != c.n || e != c.e {
			t.Errorf("Sum(%v) = %d, %d, want %d, %d", c.l, n, e, c.n, c.e)
		}
	}
}

func TestSumAtEdges(t *testing.T) { // P1.2 and P1.4, by exact numbers
	l := edges()
	for _, a := range l {
		for _, b := range l {
			for _, c := range l {
				w, f := wantSum([]int{a, b, c})
				if n, e := num.Sum(a, b, c); n != w || e != f {
					t.Fatalf("Sum(%d, %d, %d) = %d, %d, want %d, %d", a, b, c, n, e, w, f)
				}
			}
		}
	}
}

func TestSumOfMany(t *testing.T) { // P1.2
	many := make([]int, 100000)
	for i := range many {
		many[i] = i
	}
	if n, e := num.Sum(many...); n != 4999950000 || e != api.OK {
		t.Error("many:", n, e)
	}
	// Up to 2^61 just in the last but one, and beyond with the last one.
	steps := make([]int, 1<<10)
	for i := range steps {
		steps[i] = top >> 10
	}
	if n, e := num.Sum(steps...); n != top || e != api.OK {
		t.Error("up to the edge:", n, e)
	}
	if n, e := num.Sum(append(steps, 1)...); n != 0 || e != api.ErrOver {
		t.Error("beyond the edge:", n, e)
	}
	// The first ones leave what may be, by one; all that come behind bring it back.
	if n, e := num.Sum(append([]int{1}, append(steps, -top)...)...); n != 0 || e != api.ErrOver {
		t.Error("beyond the edge, and back:", n, e)
	}
}

func TestClamp(t *testing.T) { // P1.2
	for _, c := range []struct{ a, want int }{
		{0, 0}, {-9, -9}, {top, top}, {-top, -top}, {top - 1, top - 1}, {1 - top, 1 - top},
		{top + 1, top}, {-top - 1, -top}, {math.MinInt, -top}, {math.MaxInt, top},
	} {
		if n := num.Clamp(c.a); n != c.want {
			t.Errorf("Clamp(%d) = %d, want %d", c.a, n, c.want)
		}
	}
	for _, a := range edges() {
		n := num.Clamp(a)
		switch {
		case num.Check(n) != api.OK:
			t.Errorf("Clamp(%d) = %d, which may not be", a, n)
		case num.Check(a) == api.OK && n != a:
			t.Errorf("Clamp(%d) = %d", a, n)
		case a > top && n != top || a < -top && n != -top:
			t.Errorf("Clamp(%d) = %d, not the nearest", a, n)
		}
	}
}

// all is every answer of a pair of numbers, in one list.
func all(a, b int) []int {
	var out []int
	put := func(n int, e api.Errno) { out = append(out, n, int(e)) }
	put(num.Clamp(a), num.Check(a))
	put(num.Add(a, b))
	put(num.Sub(a, b))
	put(num.Neg(a))
	put(num.Sum(a, b, a, b))
	return out
}

func TestAnswersHangOnArgumentsAlone(t *testing.T) { // P1.3, P2
	l := edges()
	var first [][]int
	for _, a := range l {
		for _, b := range l {
			first = append(first, all(a, b))
		}
	}
	// Once more, from the end: neither what was asked ahead nor how often turns an answer.
	for i := len(first) - 1; i >= 0; i-- {
		a, b := l[i/len(l)], l[i%len(l)]
		if again := all(a, b); !slices.Equal(again, first[i]) {
			t.Fatalf("of %d, %d: %v, then %v", a, b, first[i], again)
		}
	}
}

func TestSumReadsOnly(t *testing.T) { // P1.3: what is handed in is only read; what lies behind its end is not even that
	room := []int{4, -3, top, top, math.MaxInt}
	before := slices.Clone(room)
	if n, e := num.Sum(room[:2]...); n != 1 || e != api.OK {
		t.Error(n, e)
	}
	if n, e := num.Sum(room...); n != 0 || e != api.ErrOver {
		t.Error(n, e)
	}
	if !slices.Equal(room, before) {
		t.Error(room)
	}
}

func TestOrderOfTwo(t *testing.T) { // P1.4
	for _, a := range edges() {
		for _, b := range edges() {
			n, e := num.Add(a, b)
			if m, f := num.Add(b, a); n != m || e != f {
				t.Errorf("Add of %d and %d: %d, %d; the other way round %d, %d", a, b, n, e, m, f)
			}
			if m, f := num.Sum(a, b); n != m || e != f {
				t.Errorf("Sum of %d and %d: %d, %d; Add: %d, %d", a, b, m, f, n, e)
			}
		}
	}
}

func TestAddedAndTakenAway(t *testing.T) { // P1.4
	for _, a := range edges() {
		for _, b := range edges() {
			if n, e := num.Add(a, b); e == api.OK {
				if back, e := num.Sub(n, b); back != a || e != api.OK {
					t.Errorf("%d, %d added and taken away: %d, %d", a, b, back, e)
				}
			}
			if n, e := num.Sub(a, b); e == api.OK {
				if back, e := num.Add(n, b); back != a || e != api.OK {
					t.Errorf("%d, %d taken away and added: %d, %d", a, b, back, e)
				}
			}
		}
		if n, e := num.Neg(a); e == api.OK {
			if back, e := num.Neg(n); back != a || e != api.OK {
				t.Errorf("Neg of %d twice: %d, %d", a, back, e)
			}
		}
	}
}

func TestZeroBesideErrors(t *testing.T) { // P1: none panics, and beside an error all else is zero
	for _, a := range edges() {
		for _, b := range edges() {
			answers := all(a, b)
			for i := 2; i < len(answers); i += 2 {
				e := api.Errno(answers[i+1])
				if e != api.OK && (e != api.ErrOver || answers[i] != 0) {
					t.Errorf("of %d, %d: %v", a, b, answers)
				}
			}
		}
	}
}

func TestErrnoIsAnError(t *testing.T) { // the rules that hold everywhere
	var err error = num.Check(top)
	if err.Error() != "rallentando: well" {
		t.Error(err)
	}
	err = num.Check(top + 1)
	if err.Error() != "rallentando: refused" {
		t.Error(err)
	}
}
