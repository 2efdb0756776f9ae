package scalars_test

import (
	"math"
	"math/big"
	"slices"
	"testing"

	"invigilator/api"
	"invigilator/scalars"
)

const (
	least    = math.MinInt64
	greatest = math.MaxInt64
)

// prim is a primitive of numbers: its name, of how many numbers it is, whether an error may come of it, and its result by the chapter's table, as an integer of any size; y is not looked at if it is of one number.
type prim struct {
	name      string
	p         int
	arity     int
	overflows bool
	want      func(x, y *big.Int) *big.Int
}

// prims has all primitives of numbers; div and mod are not asked for y = 0.
var prims = []prim{
	{"neg", api.PrNeg, 1, true, func(x, _ *big.Int) *big.Int { return fresh().Neg(x) }},
	{"abs", api.PrAbs, 1, true, func(x, _ *big.Int) *big.Int { return fresh().Abs(x) }},
	{"not", api.PrNot, 1, false, func(x, _ *big.Int) *big.Int { return truth(x.Sign() == 0) }},
	{"add", api.PrAdd, 2, true, sum},
	{"sub", api.PrSub, 2, true, rest},
	{"mul", api.PrMul, 2, true, product},
	{"div", api.PrDiv, 2, true, floor},
	{"mod", api.PrMod, 2, true, func(x, y *big.Int) *big.Int { return rest(x, product(y, floor(x, y))) }},
	{"plus", api.PrPlus, 2, false, func(x, y *big.Int) *big.Int { return clamped(sum(x, y)) }},
	{"minus", api.PrMinus, 2, false, func(x, y *big.Int) *big.Int { return clamped(rest(x, y)) }},
	{"times", api.PrTimes, 2, false, func(x, y *big.Int) *big.Int { return clamped(product(x, y)) }},
	{"eq", api.PrEq, 2, false, func(x, y *big.Int) *big.Int { return truth(x.Cmp(y) == 0) }},
	{"ne", api.PrNe, 2, false, func(x, y *big.Int) *big.Int { return truth(x.Cmp(y) != 0) }},
	{"lt", api.PrLt, 2, false, func(x, y *big.Int) *big.Int { return truth(x.Cmp(y) < 0) }},
	{"le", api.PrLe, 2, false, func(x, y *big.Int) *big.Int { return truth(x.Cmp(y) <= 0) }},
	{"gt", api.PrGt, 2, false, func(x, y *big.Int) *big.Int { return truth(x.Cmp(y) > 0) }},
	{"ge", api.PrGe, 2, false, func(x, y *big.Int) *big.Int { return truth(x.Cmp(y) >= 0) }},
	{"and", api.PrAnd, 2, false, func(x, y *big.Int) *big.Int { return truth(x.Sign() != 0 && y.Sign() != 0) }},
	{"or", api.PrOr, 2, false, func(x, y *big.Int) *big.Int { return truth(x.Sign() != 0 || y.Sign() != 0) }},
	{"min", api.PrMin, 2, false, func(x, y *big.Int) *big.Int { return ordered(x, y)[0] }},
	{"max", api.PrMax, 2, false, func(x, y *big.Int) *big.Int { return ordered(x, y)[1] }},
}

func fresh() *big.Int                { return new(big.Int) }
func sum(x, y *big.Int) *big.Int     { return fresh().Add(x, y) }
func rest(x, y *big.Int) *big.Int    { return fresh().Sub(x, y) }
func product(x, y *big.Int) *big.Int { return fresh().Mul(x, y) }

// floor returns the greatest integer that is at most x / y. The library's Div is that if y is above 0.
func floor(x, y *big.Int) *big.Int {
	if y.Sign() < 0 {
		x, y = fresh().Neg(x), fresh().Neg(y)
	}
	return fresh().Div(x, y)
}

func truth(is bool) *big.Int {
	if is {
		return big.NewInt(1)
	}
	return big.NewInt(0)
}

func ordered(x, y *big.Int) [2]*big.Int {
	if x.Cmp(y) <= 0 {
		return [2]*big.Int{x, y}
	}
	return [2]*big.Int{y, x}
}

func clamped(n *big.Int) *big.Int {
	return ordered(big.NewInt(greatest), ordered(big.NewInt(least), n)[1])[0]
}

// do does a primitive of either arity.
func do(q prim, x, y int64) (int64, api.Errno) {
	if q.arity == 1 {
		return scalars.One(q.p, x)
	}
	return scalars.Two(q.p, x, y)
}

// expected returns what the promises say of a primitive and these numbers.
func expected(q prim, x, y int64) (int64, api.Errno) {
	if (q.p == api.PrDiv || q.p == api.PrMod) && y == 0 {
		return 0, api.ErrDomain
	}
	n := q.want(big.NewInt(x), big.NewInt(y))
	if !n.IsInt64() {
		return 0, api.ErrOverflow
	}
	return n.Int64(), api.OK
}

// ask compares a primitive with what is expected.
func ask(t *testing.T, q prim, x, y int64) {
	t.Helper()
	want, f := expected(q, x, y)
	if n, e := do(q, x, y); n != want || e != f {
		t.Errorf("%s of %d, %d: %d, %d, want %d, %d", q.name, x, y, n, e, want, f)
	}
}

// near returns n and -n with their neighbours; what is beyond one end is at the other one.
func near(n int64) []int64 {
	return []int64{n - 1, n, n + 1, -n - 1, -n, -n + 1}
}

// numbers has small numbers, numbers near the powers of 2, the ends and some of their parts and roots, and others of all sizes, in order.
func numbers() []int64 {
	list := []int64{60, 255, 401, 1000000000, -1000000000, least + 2, greatest - 2}
	for n := int64(-9); n <= 9; n++ {
		list = append(list, n)
	}
	for shift := 4; shift < 64; shift++ {
		list = append(list, near(1<<shift)...)
	}
	// The root of 2^63, and parts of the greatest number, of which 7 is a factor.
	for _, n := range []int64{3037000499, greatest / 2, greatest / 3, greatest / 7} {
		list = append(list, near(n)...)
	}
	other := uint64(88172645463325252)
	for shift := range 60 {
		other ^= other << 13
		other ^= other >> 7
		other ^= other << 17
		list = append(list, int64(other)>>shift)
	}
	slices.Sort(list)
	return slices.Compact(list)
}

// each does something with all pairs of numbers.
func each(f func(x, y int64)) {
	list := numbers()
	for _, x := range list {
		for _, y := range list {
			f(x, y)
		}
	}
}

// far has numbers at the ends of int, and some that are a primitive's in fewer bits.
var far = []int{least, least + 1, least + api.PrAdd, -1 << 32, -1<<32 + api.PrNeg, 1 << 32, 1<<32 + api.PrNot, 1<<32 + api.PrMax, 1<<8 + api.PrAdd, 1<<16 + api.PrNeg, 1 << 62, greatest - 1, greatest}

// others has what is no primitive of numbers: other primitives, and no primitives.
func others() []int {
	list := slices.Clone(far)
	for p := -600; p <= 600; p++ {
		if !slices.ContainsFunc(prims, func(q prim) bool { return q.p == p }) {
			list = append(list, p)
		}
	}
	return list
}

// P9.1

func TestArityAndOverflows(t *testing.T) {
	for _, q := range prims {
		if n, e := scalars.Arity(q.p); n != q.arity || e != api.OK {
			t.Errorf("Arity of %s: %d, %d", q.name, n, e)
		}
		if is, e := scalars.Overflows(q.p); is != q.overflows || e != api.OK {
			t.Errorf("Overflows of %s: %t, %d", q.name, is, e)
		}
	}
}

func TestNoPrimitive(t *testing.T) {
	for _, p := range others() {
		if n, e := scalars.Arity(p); n != 0 || e != api.ErrArg {
			t.Errorf("Arity of %d: %d, %d", p, n, e)
		}
		if is, e := scalars.Overflows(p); is || e != api.ErrArg {
			t.Errorf("Overflows of %d: %t, %d", p, is, e)
		}
		for _, x := range []int64{least, -1, 0, 1, 7, greatest} {
			for _, y := range []int64{least, -1, 0, 1, 7, greatest} {
				noArg(t, p, x, y)
			}
		}
	}
}

// noArg fails the test if One or Two accept a primitive.
func noArg(t *testing.T, p int, x, y int64) {
	t.Helper()
	if n, e := scalars.One(p, x); n != 0 || e != api.ErrArg {
		t.Errorf("One of %d and %d: %d, %d", p, x, n, e)
	}
	if n, e := scalars.Two(p, x, y); n != 0 || e != api.ErrArg {
		t.Errorf("Two of %d and %d, %d: %d, %d", p, x, y, n, e)
	}
}

// The primitives of numbers are these, and the chapter's.
func TestPrimitives(t *testing.T) {
	var list []int
	for p := 0; p <= api.MaxPrim; p++ {
		if _, e := scalars.Arity(p); e == api.OK {
			list = append(list, p)
		}
	}
	want := []int{api.PrNeg, api.PrAbs, api.PrNot}
	for p := api.PrAdd; p <= api.PrMax; p++ {
		want = append(want, p)
	}
	if !slices.Equal(list, want) || len(prims) != len(want) {
		t.Errorf("primitives: %v, want %v", list, want)
	}
}

// Overflows is what the primitives do: ErrOverflow and ErrDomain come of these, and no errors of others.
func TestOverflowsIsTrue(t *testing.T) {
	for _, q := range prims {
		errs := map[api.Errno]bool{}
		each(func(x, y int64) {
			_, e := do(q, x, y)
			errs[e] = true
		})
		domain := q.p == api.PrDiv || q.p == api.PrMod
		overflow := q.overflows && q.p != api.PrMod
		if !errs[api.OK] || errs[api.ErrDomain] != domain || errs[api.ErrOverflow] != overflow {
			t.Errorf("errors of %s: %v", q.name, errs)
		}
		delete(errs, api.OK)
		if is, _ := scalars.Overflows(q.p); is != (len(errs) > 0) {
			t.Errorf("Overflows of %s: %t, but errors %v", q.name, is, errs)
		}
	}
}

// P9.2, P9.3: all primitives, as the table says.

func TestAll(t *testing.T) {
	for _, q := range prims {
		if q.arity == 1 {
			for _, x := range numbers() {
				ask(t, q, x, 0)
			}
			continue
		}
		each(func(x, y int64) { ask(t, q, x, y) })
	}
}

func TestSmall(t *testing.T) {
	for _, q := range prims {
		for x := int64(-70); x <= 70; x++ {
			for y := int64(-70); y <= 70; y++ {
				ask(t, q, x, y)
			}
		}
	}
}

// Sums and products all around the ends, where an error begins.
func TestEnds(t *testing.T) {
	for _, x := range numbers() {
		for d := int64(-3); d <= 3; d++ {
			for _, q := range prims {
				ask(t, q, x, greatest-x+d)
				ask(t, q, x, least-x+d)
				ask(t, q, x, x-greatest+d)
				ask(t, q, x, x-least+d)
				if x != 0 {
					ask(t, q, x, greatest/x+d)
					ask(t, q, x, least/x+d)
				}
			}
		}
	}
}

func TestWrongArity(t *testing.T) {
	for _, q := range prims {
		for _, x := range []int64{least, -1, 0, 1, greatest} {
			if n, e := scalars.One(q.p, x); q.arity == 2 && (n != 0 || e != api.ErrArg) {
				t.Errorf("One of %s: %d, %d", q.name, n, e)
			}
			for _, y := range []int64{least, -1, 0, 1, greatest} {
				if n, e := scalars.Two(q.p, x, y); q.arity == 1 && (n != 0 || e != api.ErrArg) {
					t.Errorf("Two of %s: %d, %d", q.name, n, e)
				}
			}
		}
	}
}

// The chapter's examples, and the ends of each primitive.

func TestExamples(t *testing.T) {
	for _, x := range []struct {
		p    int
		x, y int64
		want int64
		e    api.Errno
	}{
		{api.PrDiv, 7, 2, 3, api.OK}, {api.PrDiv, -7, 2, -4, api.OK}, {api.PrDiv, 7, -2, -4, api.OK}, {api.PrDiv, -7, -2, 3, api.OK},
		{api.PrMod, 7, 2, 1, api.OK}, {api.PrMod, -7, 2, 1, api.OK}, {api.PrMod, 7, -2, -1, api.OK}, {api.PrMod, -7, -2, -1, api.OK},
		{api.PrDiv, least, -1, 0, api.ErrOverflow}, {api.PrMod, least, -1, 0, api.OK},
		{api.PrMul, 1 << 32, 1 << 31, 0, api.ErrOverflow}, {api.PrMul, 1 << 32, -1 << 31, least, api.OK},
		{api.PrAnd, 5, -1, 1, api.OK}, {api.PrMax, -1, -2, -1, api.OK},
		{api.PrTimes, 1 << 32, 1 << 31, greatest, api.OK}, {api.PrTimes, 1 << 32, -1 << 32, least, api.OK}, {api.PrMinus, 0, least, greatest, api.OK},
		{api.PrDiv, 1, 0, 0, api.ErrDomain},
		{api.PrDiv, 0, 0, 0, api.ErrDomain}, {api.PrMod, 0, 0, 0, api.ErrDomain}, {api.PrMod, least, 0, 0, api.ErrDomain}, {api.PrDiv, least, 0, 0, api.ErrDomain},
		{api.PrDiv, least, 1, least, api.OK}, {api.PrDiv, least, greatest, -2, api.OK}, {api.PrMod, least, greatest, greatest - 1, api.OK}, {api.PrDiv, greatest, least, -1, api.OK}, {api.PrMod, greatest, least, -1, api.OK},
		{api.PrAdd, greatest, 1, 0, api.ErrOverflow}, {api.PrAdd, least, -1, 0, api.ErrOverflow}, {api.PrAdd, least, greatest, -1, api.OK}, {api.PrAdd, least, least, 0, api.ErrOverflow},
		{api.PrSub, 0, least, 0, api.ErrOverflow}, {api.PrSub, -1, least, greatest, api.OK}, {api.PrSub, least, 1, 0, api.ErrOverflow}, {api.PrSub, least, least, 0, api.OK},
		{api.PrMul, least, -1, 0, api.ErrOverflow}, {api.PrMul, -1, least, 0, api.ErrOverflow}, {api.PrMul, least, 0, 0, api.OK}, {api.PrMul, 0, least, 0, api.OK}, {api.PrMul, 1, least, least, api.OK}, {api.PrMul, 1 << 32, 1 << 32, 0, api.ErrOverflow},
		{api.PrPlus, greatest, greatest, greatest, api.OK}, {api.PrPlus, least, least, least, api.OK}, {api.PrPlus, 2, 3, 5, api.OK},
		{api.PrMinus, least, 1, least, api.OK}, {api.PrMinus, greatest, -1, greatest, api.OK},
		{api.PrTimes, least, -1, greatest, api.OK}, {api.PrTimes, -1, least, greatest, api.OK}, {api.PrTimes, least, least, greatest, api.OK}, {api.PrTimes, greatest, least, least, api.OK}, {api.PrTimes, least, 0, 0, api.OK},
		{api.PrLt, least, greatest, 1, api.OK}, {api.PrGt, least, greatest, 0, api.OK}, {api.PrLe, 4, 4, 1, api.OK}, {api.PrGe, 4, 4, 1, api.OK}, {api.PrEq, least, least, 1, api.OK}, {api.PrNe, least, least, 0, api.OK},
		{api.PrAnd, 5, 2, 1, api.OK}, {api.PrAnd, 0, 5, 0, api.OK}, {api.PrOr, 0, 2, 1, api.OK}, {api.PrOr, -3, 0, 1, api.OK}, {api.PrOr, 0, 0, 0, api.OK},
		{api.PrMin, least, greatest, least, api.OK}, {api.PrMin, -1, -2, -2, api.OK}, {api.PrMax, greatest, least, greatest, api.OK},
	} {
		if n, e := scalars.Two(x.p, x.x, x.y); n != x.want || e != x.e {
			t.Errorf("%d of %d, %d: %d, %d, want %d, %d", x.p, x.x, x.y, n, e, x.want, x.e)
		}
	}
}

func TestExamplesOfOne(t *testing.T) {
	for _, x := range []struct {
		p    int
		x    int64
		want int64
		e    api.Errno
	}{
		{api.PrNot, 3, 0, api.OK}, {api.PrNot, 0, 1, api.OK}, {api.PrNot, least, 0, api.OK}, {api.PrNot, 1 << 32, 0, api.OK},
		{api.PrNeg, least, 0, api.ErrOverflow}, {api.PrNeg, least + 1, greatest, api.OK}, {api.PrNeg, greatest, least + 1, api.OK}, {api.PrNeg, 0, 0, api.OK},
		{api.PrAbs, least, 0, api.ErrOverflow}, {api.PrAbs, least + 1, greatest, api.OK}, {api.PrAbs, greatest, greatest, api.OK}, {api.PrAbs, -5, 5, api.OK}, {api.PrAbs, 0, 0, api.OK},
	} {
		if n, e := scalars.One(x.p, x.x); n != x.want || e != x.e {
			t.Errorf("%d of %d: %d, %d, want %d, %d", x.p, x.x, n, e, x.want, x.e)
		}
	}
}
