package bound_test

import (
	"math"
	"math/big"
	"testing"

	"rallentando/api"
	"rallentando/bound"
	"rallentando/num"
)

const top = 1 << 61

// The calls, with the chapter's signatures.
var (
	_ func(api.Bound) api.Errno                         = bound.Check
	_ func(int) (api.Bound, api.Errno)                  = bound.Most
	_ func(int) (api.Bound, api.Errno)                  = bound.Less
	_ func(api.Bound) (int, bool, api.Errno)            = bound.Value
	_ func(api.Bound, api.Bound) (api.Bound, api.Errno) = bound.Add
	_ func(api.Bound) (api.Bound, api.Errno)            = bound.Not
	_ func(int, api.Bound) (bool, api.Errno)            = bound.Keeps
)

// numbers are ordinary ones, those around -2^61, -2^60, 0, 2^60 and 2^61, those whose double wraps round, and the least and the greatest int.
func numbers() []int {
	var l []int
	for _, a := range []int{-3 * top, -2 * top, -top, -top / 2, 0, top / 2, top, 2 * top, 3 * top} {
		for d := -2; d <= 2; d++ {
			l = append(l, a+d)
		}
	}
	return append(l, -1000003, -77, 5, 42, 99999, math.MinInt, math.MinInt+1, math.MaxInt-1, math.MaxInt)
}

// bounds are those of the same kind: around what is told of -2^61, 0 and 2^61, None, what lies beside it, and the least ones.
func bounds() []api.Bound {
	l := []api.Bound{api.None, api.None - 1, api.None - 2, math.MinInt, math.MinInt + 1, 3 * top, -3 * top, 1000007, -1000007, 84, 199998}
	for _, b := range []api.Bound{-2 * top, -top, 0, top, 2 * top} {
		for d := api.Bound(-5); d <= 5; d++ {
			l = append(l, b+d)
		}
	}
	return l
}

func exact(a int) *big.Int { return big.NewInt(int64(a)) }

func mayBe(c *big.Int) bool {
	return c.CmpAbs(new(big.Int).Lsh(big.NewInt(1), 61)) <= 0
}

// read is what the chapter's words say of a bound, by numbers of any size: its number, strict or not; or none; or bad.
type read struct {
	c                 *big.Int
	strict, none, bad bool
}

func reading(b api.Bound) read {
	if b == math.MaxInt {
		return read{none: true}
	}
	twice, rest := exact(int(b)), new(big.Int)
	c, _ := new(big.Int).DivMod(twice, big.NewInt(2), rest)
	return read{c: c, strict: rest.Sign() == 0, bad: !mayBe(c)}
}

// told is the bound of an exact number.
func told(c *big.Int, strict bool) (api.Bound, api.Errno) {
	if !mayBe(c) {
		return 0, api.ErrOver
	}
	b := new(big.Int).Lsh(c, 1)
	if !strict {
		b.Add(b, big.NewInt(1))
	}
	return api.Bound(b.Int64()), api.OK
}

func most(t *testing.T, c int) api.Bound {
	t.Helper()
	b, e := bound.Most(c)
	if e != api.OK {
		t.Fatalf("Most(%d): %d", c, e)
	}
	return b
}

func less(t *testing.T, c int) api.Bound {
	t.Helper()
	b, e := bound.Less(c)
	if e != api.OK {
		t.Fatalf("Less(%d): %d", c, e)
	}
	return b
}

func TestCheck(t *testing.T) { // P2.1
	for _, c := range []struct {
		b api.Bound
		e api.Errno
	}{
		{api.None, api.OK}, {0, api.OK}, {1, api.OK}, {-1, api.OK}, {7, api.OK}, {-12345, api.OK},
		// Of 2^61: less than it, and at most it; then less than 2^61 + 1.
		{2*top - 1, api.OK}, {2 * top, api.OK}, {2*top + 1, api.OK}, {2*top + 2, api.ErrBad}, {2*top + 3, api.ErrBad},
		// Of -2^61: less than it, and at most it; below, at most -2^61 - 1.
		{-2*top + 1, api.OK}, {-2 * top, api.OK}, {-2*top - 1, api.ErrBad}, {-2*top - 2, api.ErrBad},
		{api.None - 1, api.ErrBad}, {api.None - 2, api.ErrBad}, {math.MinInt, api.ErrBad}, {math.MinInt + 1, api.ErrBad},
	} {
		if e := bound.Check(c.b); e != c.e {
			t.Errorf("Check(%d) = %d, want %d", c.b, e, c.e)
		}
	}
	for _, b := range bounds() {
		want := api.OK
		if reading(b).bad {
			want = api.ErrBad
		}
		if e := bound.Check(b); e != want {
			t.Errorf("Check(%d) = %d, want %d", b, e, want)
		}
	}
}

func TestMostAndLess(t *testing.T) { // P2.1
	for _, c := range []struct {
		c          int
		most, less api.Bound
		e          api.Errno
	}{
		{3, 7, 6, api.OK}, {-1, -1, -2, api.OK}, {0, 1, 0, api.OK}, {1, 3, 2, api.OK}, {-3, -5, -6, api.OK},
		{top, 2*top + 1, 2 * top, api.OK}, {-top, -2*top + 1, -2 * top, api.OK},
		{top + 1, 0, 0, api.ErrOver}, {-top - 1, 0, 0, api.ErrOver},
		// Their doubles wrap round.
		{2 * top, 0, 0, api.ErrOver}, {-2 * top, 0, 0, api.ErrOver}, {-4 * top, 0, 0, api.ErrOver}, {math.MaxInt, 0, 0, api.ErrOver}, {math.MinInt + 3, 0, 0, api.ErrOver},
	} {
		if b, e := bound.Most(c.c); b != c.most || e != c.e {
			t.Errorf("Most(%d) = %d, %d, want %d, %d", c.c, b, e, c.most, c.e)
		}
		if b, e := bound.Less(c.c); b != c.less || e != c.e {
			t.Errorf("Less(%d) = %d, %d, want %d, %d", c.c, b, e, c.less, c.e)
		}
	}
	for _, c := range numbers() {
		w, f := told(exact(c), false)
		if b, e := bound.Most(c); b != w || e != f || e != num.Check(c) {
			t.Errorf("Most(%d) = %d, %d, want %d, %d", c, b, e, w, f)
		}
		w, f = told(exact(c), true)
		if b, e := bound.Less(c); b != w || e != f || e != num.Check(c) {
			t.Errorf("Less(%d) = %d, %d, want %d, %d", c, b, e, w, f)
		}
	}
}

func TestValue(t *testing.T) { // P2.1
	for _, c := range []struct {
		b      api.Bound
		c      int
		strict bool
		e      api.Errno
	}{
		{7, 3, false, api.OK}, {6, 3, true, api.OK}, {-1, -1, false, api.OK}, {-2, -1, true, api.OK}, {-3, -2, false, api.OK}, {0, 0, true, api.OK}, {1, 0, false, api.OK},
		{2*top + 1, top, false, api.OK}, {2 * top, top, true, api.OK}, {-2*top + 1, -top, false, api.OK}, {-2 * top, -top, true, api.OK},
		{2*top + 2, 0, false, api.ErrBad}, {2*top + 3, 0, false, api.ErrBad}, {-2*top - 1, 0, false, api.ErrBad}, {-2*top - 2, 0, false, api.ErrBad},
		{api.None, 0, false, api.ErrNone}, {api.None - 1, 0, false, api.ErrBad}, {math.MinInt, 0, false, api.ErrBad},
	} {
		if n, s, e := bound.Value(c.b); n != c.c || s != c.strict || e != c.e {
			t.Errorf("Value(%d) = %d, %t, %d, want %d, %t, %d", c.b, n, s, e, c.c, c.strict, c.e)
		}
	}
	for _, b := range bounds() {
		n, strict, e := bound.Value(b)
		switch r := reading(b); {
		case r.bad && (n != 0 || strict || e != api.ErrBad),
			r.none && (n != 0 || strict || e != api.ErrNone),
			!r.bad && !r.none && (exact(n).Cmp(r.c) != 0 || strict != r.strict || e != api.OK):
			t.Errorf("Value(%d) = %d, %t, %d", b, n, strict, e)
		}
	}
}

func TestValueOfWhatIsMade(t *testing.T) { // P2.1: Value tells what Most and Less were handed
	for _, c := range numbers() {
		if num.Check(c) != api.OK {
			continue
		}
		if n, s, e := bound.Value(most(t, c)); n != c || s || e != api.OK {
			t.Errorf("Value of Most(%d) = %d, %t, %d", c, n, s, e)
		}
		if n, s, e := bound.Value(less(t, c)); n != c || !s || e != api.OK {
			t.Errorf("Value of Less(%d) = %d, %t, %d", c, n, s, e)
		}
	}
}

func TestAdd(t *testing.T) { // P2.2
	none := api.None
	for _, c := range []struct {
		a, b, sum api.Bound
		e         api.Errno
	}{
		// Both kinds with both kinds; strict, if one is.
		{7, -10, -4, api.OK}, {7, -9, -3, api.OK}, {6, -9, -4, api.OK}, {6, -10, -4, api.OK}, {1, 1, 1, api.OK}, {0, 0, 0, api.OK}, {1, 0, 0, api.OK}, {-1, -1, -3, api.OK},
		// None with any that may be, and with itself.
		{none, none, none, api.OK}, {none, 7, none, api.OK}, {none, -4, none, api.OK}, {none, 2*top + 1, none, api.OK}, {none, -2 * top, none, api.OK},
		// At the edges, and just beyond.
		{2*top + 1, 1, 2*top + 1, api.OK}, {2*top + 1, 0, 2 * top, api.OK}, {2 * top, 1, 2 * top, api.OK}, {2*top + 1, 3, 0, api.ErrOver}, {2 * top, 2, 0, api.ErrOver},
		{-2*top + 1, 1, -2*top + 1, api.OK}, {-2*top + 1, 0, -2 * top, api.OK}, {-2*top + 1, -1, 0, api.ErrOver}, {-2 * top, -2, 0, api.ErrOver},
		{2*top + 1, -2*top + 1, 1, api.OK}, {2 * top, -2*top + 1, 0, api.OK}, {2*top + 1, 2*top + 1, 0, api.ErrOver}, {-2 * top, -2 * top, 0, api.ErrOver}, {top + 1, top + 1, 2*top + 1, api.OK}, {top + 1, top + 3, 0, api.ErrOver},
		// One that may not be is told, whatever the other one is, and wherever the sum would lie.
		{none, none - 1, 0, api.ErrBad}, {none, 2*top + 2, 0, api.ErrBad}, {none, math.MinInt, 0, api.ErrBad},
		{2*top + 2, -2, 0, api.ErrBad}, {2*top + 2, 2*top + 1, 0, api.ErrBad}, {-2*top - 1, -2 * top, 0, api.ErrBad}, {-2*top - 1, 7, 0, api.ErrBad}, {math.MinInt, math.MinInt, 0, api.ErrBad}, {none - 1, none - 1, 0, api.ErrBad},
	} {
		if n, e := bound.Add(c.a, c.b); n != c.sum || e != c.e {
			t.Errorf("Add(%d, %d) = %d, %d, want %d, %d", c.a, c.b, n, e, c.sum, c.e)
		}
		if n, e := bound.Add(c.b, c.a); n != c.sum || e != c.e {
			t.Errorf("Add(%d, %d) = %d, %d, want %d, %d", c.b, c.a, n, e, c.sum, c.e)
		}
	}
}

// wantAdd is what the chapter says of Add, by exact numbers.
func wantAdd(a, b api.Bound) (api.Bound, api.Errno) {
	p, q := reading(a), reading(b)
	if p.bad || q.bad {
		return 0, api.ErrBad
	}
	if p.none || q.none {
		return api.None, api.OK
	}
	return told(new(big.Int).Add(p.c, q.c), p.strict || q.strict)
}

func TestAddAtEdges(t *testing.T) { // P2.2
	for _, a := range bounds() {
		for _, b := range bounds() {
			w, f := wantAdd(a, b)
			if n, e := bound.Add(a, b); n != w || e != f {
				t.Errorf("Add(%d, %d) = %d, %d, want %d, %d", a, b, n, e, w, f)
			}
		}
	}
}

func TestNot(t *testing.T) { // P2.2
	for _, c := range []struct {
		b, not api.Bound
		e      api.Errno
	}{
		{7, -6, api.OK}, {6, -5, api.OK}, {0, 1, api.OK}, {1, 0, api.OK}, {-1, 2, api.OK}, {-2, 3, api.OK},
		{2*top + 1, -2 * top, api.OK}, {2 * top, -2*top + 1, api.OK}, {-2*top + 1, 2 * top, api.OK}, {-2 * top, 2*top + 1, api.OK},
		{api.None, 0, api.ErrNone}, {2*top + 2, 0, api.ErrBad}, {-2*top - 1, 0, api.ErrBad}, {api.None - 1, 0, api.ErrBad}, {math.MinInt, 0, api.ErrBad}, {math.MinInt + 1, 0, api.ErrBad},
	} {
		if n, e := bound.Not(c.b); n != c.not || e != c.e {
			t.Errorf("Not(%d) = %d, %d, want %d, %d", c.b, n, e, c.not, c.e)
		}
	}
	for _, b := range bounds() {
		var w api.Bound
		_, _, f := bound.Value(b)
		if f == api.OK {
			r := reading(b)
			w, _ = told(new(big.Int).Neg(r.c), !r.strict)
		}
		if n, e := bound.Not(b); n != w || e != f {
			t.Errorf("Not(%d) = %d, %d, want %d, %d", b, n, e, w, f)
		}
	}
}

func TestKeeps(t *testing.T) { // P2.2
	for _, c := range []struct {
		d     int
		b     api.Bound
		keeps bool
		e     api.Errno
	}{
		{3, 7, true, api.OK}, {3, 6, false, api.OK}, {2, 6, true, api.OK}, {4, 7, false, api.OK}, {0, 0, false, api.OK}, {0, 1, true, api.OK}, {-1, 0, true, api.OK}, {-1, -1, true, api.OK}, {-1, -2, false, api.OK}, {-2, -2, true, api.OK},
		// Any keeps None.
		{0, api.None, true, api.OK}, {top, api.None, true, api.OK}, {-top, api.None, true, api.OK},
		// The edges, strict and not.
		{top, 2*top + 1, true, api.OK}, {top, 2 * top, false, api.OK}, {top - 1, 2 * top, true, api.OK}, {-top, -2*top + 1, true, api.OK}, {-top, -2 * top, false, api.OK}, {1 - top, -2*top + 1, false, api.OK}, {-top, 2*top + 1, true, api.OK}, {top, -2 * top, false, api.OK},
		// What may not be: the difference is asked ahead of the bound.
		{top + 1, 7, false, api.ErrOver}, {-top - 1, 7, false, api.ErrOver}, {top + 1, api.None, false, api.ErrOver}, {math.MinInt, 7, false, api.ErrOver}, {math.MaxInt, api.None, false, api.ErrOver},
		{math.MinInt, math.MinInt, false, api.ErrOver}, {math.MaxInt, api.None - 1, false, api.ErrOver}, {-top - 1, 2*top + 2, false, api.ErrOver},
		{0, 2*top + 2, false, api.ErrBad}, {0, -2*top - 1, false, api.ErrBad}, {top, api.None - 1, false, api.ErrBad}, {-top, math.MinInt, false, api.ErrBad}, {5, math.MinInt + 1, false, api.ErrBad},
	} {
		if k, e := bound.Keeps(c.d, c.b); k != c.keeps || e != c.e {
			t.Errorf("Keeps(%d, %d) = %t, %d, want %t, %d", c.d, c.b, k, e, c.keeps, c.e)
		}
	}
}

// wantKeeps is what the chapter says of Keeps, by exact numbers.
func wantKeeps(d int, b api.Bound) (bool, api.Errno) {
	if !mayBe(exact(d)) {
		return false, api.ErrOver
	}
	r := reading(b)
	switch {
	case r.bad:
		return false, api.ErrBad
	case r.none:
		return true, api.OK
	case r.strict:
		return exact(d).Cmp(r.c) < 0, api.OK
	}
	return exact(d).Cmp(r.c) <= 0, api.OK
}

func TestKeepsAtEdges(t *testing.T) { // P2.2
	for _, d := range numbers() {
		for _, b := range bounds() {
			w, f := wantKeeps(d, b)
			if k, e := bound.Keeps(d, b); k != w || e != f {
				t.Errorf("Keeps(%d, %d) = %t, %d, want %t, %d", d, b, k, e, w, f)
			}
		}
	}
}

// answers are all that is said of a number and two bounds.
type answers struct {
	most, less, sum, not api.Bound
	c                    int
	strict, keeps        bool
	e                    [7]api.Errno
}

func all(d int, a, b api.Bound) answers {
	var l answers
	l.e[0] = bound.Check(a)
	l.most, l.e[1] = bound.Most(d)
	l.less, l.e[2] = bound.Less(d)
	l.c, l.strict, l.e[3] = bound.Value(a)
	l.sum, l.e[4] = bound.Add(a, b)
	l.not, l.e[5] = bound.Not(a)
	l.keeps, l.e[6] = bound.Keeps(d, a)
	return l
}

func TestAnswersHangOnArgumentsAlone(t *testing.T) { // P2.3, P2
	ds, bs := numbers(), bounds()
	var first []answers
	for i := range bs {
		for j := range bs {
			first = append(first, all(ds[(i+j)%len(ds)], bs[i], bs[j]))
		}
	}
	// Once more, from the end: neither what was asked ahead nor how often turns an answer.
	for k := len(first) - 1; k >= 0; k-- {
		i, j := k/len(bs), k%len(bs)
		if again := all(ds[(i+j)%len(ds)], bs[i], bs[j]); again != first[k] {
			t.Fatalf("of %d, %d: %v, then %v", bs[i], bs[j], first[k], again)
		}
	}
}

func TestZeroBesideErrors(t *testing.T) { // P1: none panics, and beside an error all else is zero
	for _, d := range numbers() {
		for _, b := range bounds() {
			l := all(d, b, 7)
			switch {
			case l.e[1] != api.OK && l.most != 0, l.e[2] != api.OK && l.less != 0,
				l.e[3] != api.OK && (l.c != 0 || l.strict), l.e[4] != api.OK && l.sum != 0,
				l.e[5] != api.OK && l.not != 0, l.e[6] != api.OK && l.keeps:
				t.Errorf("of %d, %d: %v", d, b, l)
			}
		}
	}
}

func TestSumIsKept(t *testing.T) { // P2.4: two differences that keep two bounds have a sum that keeps the bounds' sum
	var ds []int
	for d := -4; d <= 4; d++ {
		ds = append(ds, d, top/2+d, -top/2+d)
	}
	var bs []api.Bound
	for b := api.Bound(-7); b <= 7; b++ {
		bs = append(bs, b, top+b, b-top)
	}
	bs = append(bs, api.None, 2*top, 2*top+1, -2*top, -2*top+1)
	for _, a := range bs {
		for _, b := range bs {
			sum, e := bound.Add(a, b)
			if e != api.OK {
				continue
			}
			for _, c := range ds {
				for _, d := range ds {
					sumIsKept(t, c, d, a, b, sum)
				}
			}
		}
	}
}

func sumIsKept(t *testing.T, c, d int, a, b, sum api.Bound) {
	t.Helper()
	first, _ := bound.Keeps(c, a)
	second, _ := bound.Keeps(d, b)
	n, e := num.Add(c, d)
	if !first || !second || e != api.OK {
		return
	}
	if k, e := bound.Keeps(n, sum); !k || e != api.OK {
		t.Fatalf("%d keeps %d, and %d keeps %d, yet not their sum %d", c, a, d, b, sum)
	}
}

func TestOrderOfSums(t *testing.T) { // P2.4: neither the order, nor which two are made first
	bs := bounds()
	for _, a := range bs {
		for _, b := range bs {
			ab, e := bound.Add(a, b)
			if ba, f := bound.Add(b, a); ba != ab || f != e {
				t.Errorf("Add of %d and %d: %d, %d; the other way round %d, %d", a, b, ab, e, ba, f)
			}
			for _, c := range bs {
				bc, f := bound.Add(b, c)
				if e != api.OK || f != api.OK {
					continue
				}
				left, e1 := bound.Add(ab, c)
				right, e2 := bound.Add(a, bc)
				if left != right || e1 != e2 {
					t.Errorf("of %d, %d, %d: %d, %d, and %d, %d", a, b, c, left, e1, right, e2)
				}
			}
		}
	}
}

func TestNotOfNot(t *testing.T) { // P2.4
	for _, b := range bounds() {
		not, e := bound.Not(b)
		if e != api.OK {
			continue
		}
		if back, e := bound.Not(not); back != b || e != api.OK {
			t.Errorf("Not of Not(%d) = %d, %d", b, back, e)
		}
	}
}

func TestNotIsKeptOtherwise(t *testing.T) { // P2.4: a difference keeps a bound just if the other way round it does not keep not the bound
	for _, b := range bounds() {
		not, e := bound.Not(b)
		if e != api.OK {
			continue
		}
		for _, d := range numbers() {
			if num.Check(d) != api.OK {
				continue
			}
			k, e1 := bound.Keeps(d, b)
			other, e2 := bound.Keeps(-d, not)
			if k == other || e1 != api.OK || e2 != api.OK {
				t.Errorf("Keeps(%d, %d) = %t, and Keeps(%d, %d) = %t", d, b, k, -d, not, other)
			}
		}
	}
}

func TestLesserIsKeptByFewer(t *testing.T) { // P2.4
	for _, a := range bounds() {
		for _, b := range bounds() {
			if a >= b || bound.Check(a) != api.OK || bound.Check(b) != api.OK {
				continue
			}
			for _, d := range numbers() {
				k, e := bound.Keeps(d, a)
				if more, f := bound.Keeps(d, b); k && !more || e != f {
					t.Errorf("%d keeps %d: %t, %d; and %d: %t, %d", d, a, k, e, b, more, f)
				}
			}
		}
	}
}
