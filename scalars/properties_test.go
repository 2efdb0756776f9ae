package scalars_test

import (
	"math/big"
	"testing"

	"invigilator/api"
	"invigilator/scalars"
)

// ok returns a result of two numbers that must have no error.
func ok(t *testing.T, p int, x, y int64) int64 {
	t.Helper()
	n, e := scalars.Two(p, x, y)
	if e != api.OK {
		t.Fatalf("%d of %d, %d: error %d", p, x, y, e)
	}
	return n
}

// P9.4

func TestAddAndSubUndoEachOther(t *testing.T) {
	each(func(x, y int64) {
		if n, e := scalars.Two(api.PrAdd, x, y); e == api.OK && (ok(t, api.PrSub, n, y) != x || ok(t, api.PrSub, n, x) != y) {
			t.Errorf("sub of add of %d, %d", x, y)
		}
		if n, e := scalars.Two(api.PrSub, x, y); e == api.OK && ok(t, api.PrAdd, n, y) != x {
			t.Errorf("add of sub of %d, %d", x, y)
		}
	})
}

func TestDivAndMod(t *testing.T) {
	each(func(x, y int64) {
		n, e := scalars.Two(api.PrDiv, x, y)
		if e != api.OK {
			return
		}
		left := ok(t, api.PrMod, x, y)
		// y times n alone may be no number.
		whole := product(big.NewInt(y), big.NewInt(n))
		if sum(whole, big.NewInt(left)).Cmp(big.NewInt(x)) != 0 {
			t.Errorf("%d is not %d times %d, and %d", x, y, n, left)
		}
		if left != 0 && (left < 0) != (y < 0) {
			t.Errorf("mod of %d, %d: %d has not the sign of y", x, y, left)
		}
		if y < 0 && left <= y || y > 0 && left >= y {
			t.Errorf("mod of %d, %d: %d is not nearer to 0 than y", x, y, left)
		}
	})
}

func TestMulAndDiv(t *testing.T) {
	each(func(x, y int64) {
		n, e := scalars.Two(api.PrMul, x, y)
		if e != api.OK {
			return
		}
		if y != 0 && (ok(t, api.PrDiv, n, y) != x || ok(t, api.PrMod, n, y) != 0) {
			t.Errorf("div of mul of %d, %d", x, y)
		}
		if x != 0 && (ok(t, api.PrDiv, n, x) != y || ok(t, api.PrMod, n, x) != 0) {
			t.Errorf("div of mul of %d, %d by the first one", x, y)
		}
	})
}

// P9.5

func TestOverflowOfOne(t *testing.T) {
	for _, x := range numbers() {
		for _, p := range []int{api.PrNeg, api.PrAbs} {
			if _, e := scalars.One(p, x); (e == api.ErrOverflow) != (x == least) {
				t.Errorf("%d of %d: error %d", p, x, e)
			}
		}
	}
}

func TestOverflowOfTwo(t *testing.T) {
	each(func(x, y int64) {
		a, b := big.NewInt(x), big.NewInt(y)
		if _, e := scalars.Two(api.PrDiv, x, y); (e == api.ErrOverflow) != (x == least && y == -1) {
			t.Errorf("div of %d, %d: error %d", x, y, e)
		}
		if _, e := scalars.Two(api.PrMod, x, y); e == api.ErrOverflow {
			t.Errorf("mod of %d, %d: error %d", x, y, e)
		}
		if _, e := scalars.Two(api.PrAdd, x, y); (e == api.ErrOverflow) == sum(a, b).IsInt64() {
			t.Errorf("add of %d, %d: error %d", x, y, e)
		}
		if _, e := scalars.Two(api.PrSub, x, y); (e == api.ErrOverflow) == rest(a, b).IsInt64() {
			t.Errorf("sub of %d, %d: error %d", x, y, e)
		}
	})
}

func TestEndsInsteadOfErrors(t *testing.T) {
	for _, q := range []struct {
		end, exact int
		truly      func(x, y *big.Int) *big.Int
	}{
		{api.PrPlus, api.PrAdd, sum},
		{api.PrMinus, api.PrSub, rest},
		{api.PrTimes, api.PrMul, product},
	} {
		each(func(x, y int64) {
			want, e := scalars.Two(q.exact, x, y)
			if e != api.OK {
				want = greatest
				if q.truly(big.NewInt(x), big.NewInt(y)).Sign() < 0 {
					want = least
				}
			}
			if n := ok(t, q.end, x, y); n != want {
				t.Errorf("%d of %d, %d: %d, want %d", q.end, x, y, n, want)
			}
		})
	}
}

// P9.6

func TestOrders(t *testing.T) {
	each(func(x, y int64) {
		lt, eq, gt := ok(t, api.PrLt, x, y), ok(t, api.PrEq, x, y), ok(t, api.PrGt, x, y)
		if lt+eq+gt != 1 || lt*eq != 0 || lt*gt != 0 || eq*gt != 0 {
			t.Errorf("lt, eq, gt of %d, %d: %d, %d, %d", x, y, lt, eq, gt)
		}
		le, ne, ge := ok(t, api.PrLe, x, y), ok(t, api.PrNe, x, y), ok(t, api.PrGe, x, y)
		if le != 1-gt || ne != 1-eq || ge != 1-lt {
			t.Errorf("le, ne, ge of %d, %d: %d, %d, %d", x, y, le, ne, ge)
		}
		low, high := ok(t, api.PrMin, x, y), ok(t, api.PrMax, x, y)
		if low > high || !(low == x && high == y || low == y && high == x) {
			t.Errorf("min, max of %d, %d: %d, %d", x, y, low, high)
		}
	})
}

// not returns not of x, which has no error.
func not(t *testing.T, x int64) int64 {
	t.Helper()
	n, e := scalars.One(api.PrNot, x)
	if e != api.OK || n != 0 && n != 1 {
		t.Fatalf("not of %d: %d, %d", x, n, e)
	}
	return n
}

func TestRulesOfTruth(t *testing.T) {
	each(func(x, y int64) {
		and, or := ok(t, api.PrAnd, x, y), ok(t, api.PrOr, x, y)
		if and != not(t, ok(t, api.PrOr, not(t, x), not(t, y))) || or != not(t, ok(t, api.PrAnd, not(t, x), not(t, y))) {
			t.Errorf("and, or of %d, %d: %d, %d", x, y, and, or)
		}
		if and != ok(t, api.PrAnd, y, x) || or != ok(t, api.PrOr, y, x) {
			t.Errorf("and, or of %d, %d in the other order", x, y)
		}
		if ok(t, api.PrAnd, x, not(t, x)) != 0 || ok(t, api.PrOr, x, not(t, x)) != 1 {
			t.Errorf("and, or of %d and its not", x)
		}
		if not(t, not(t, x)) != ok(t, api.PrOr, x, x) || ok(t, api.PrAnd, x, x) != ok(t, api.PrOr, x, x) {
			t.Errorf("not of not of %d", x)
		}
		if ok(t, api.PrAnd, x, or) != ok(t, api.PrOr, x, 0) || ok(t, api.PrOr, x, and) != ok(t, api.PrAnd, x, 1) {
			t.Errorf("%d with and, or of itself and %d", x, y)
		}
	})
}
