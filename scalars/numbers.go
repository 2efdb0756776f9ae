package scalars

import (
	"math"

	"invigilator/api"
)

// number is a number; its methods are the primitives.
type number int64

// least and greatest are the ends of the numbers.
const (
	least    number = math.MinInt64
	greatest number = math.MaxInt64
)

func (x number) neg() (number, api.Errno) {
	if x == least {
		return 0, api.ErrOverflow
	}
	return -x, api.OK
}

func (x number) abs() (number, api.Errno) {
	if x < 0 {
		return x.neg()
	}
	return x, api.OK
}

func (x number) add(y number) (number, api.Errno) {
	sum := x + y
	// Parts with the same sign have a sum with that sign, if it is a number.
	if (x < 0) == (y < 0) && (sum < 0) != (x < 0) {
		return 0, api.ErrOverflow
	}
	return sum, api.OK
}

func (x number) sub(y number) (number, api.Errno) {
	rest := x - y
	// Numbers with different signs have a rest with the sign of x, if it is a number.
	if (x < 0) != (y < 0) && (rest < 0) != (x < 0) {
		return 0, api.ErrOverflow
	}
	return rest, api.OK
}

func (x number) mul(y number) (number, api.Errno) {
	switch y {
	case 0:
		return 0, api.OK
	case -1: // in Go the least number is itself times -1, and divided by -1
		return x.neg()
	}
	product := x * y
	// A wrong product lies at least 2^64 from the true one, so it is not x when divided by y.
	if product/y != x {
		return 0, api.ErrOverflow
	}
	return product, api.OK
}

func (x number) div(y number) (number, api.Errno) {
	switch y {
	case 0:
		return 0, api.ErrDomain
	case -1:
		return x.neg()
	}
	times := x / y
	// Go cuts towards 0, which is up if x / y is below 0.
	if x%y != 0 && (x < 0) != (y < 0) {
		times--
	}
	return times, api.OK
}

func (x number) mod(y number) (number, api.Errno) {
	if y == 0 {
		return 0, api.ErrDomain
	}
	rest := x % y
	// Go's rest has the sign of x.
	if rest != 0 && (x < 0) != (y < 0) {
		rest += y
	}
	return rest, api.OK
}

func (x number) plus(y number) (number, api.Errno) {
	sum, e := x.add(y)
	return orEnd(sum, e, x < 0)
}

func (x number) minus(y number) (number, api.Errno) {
	rest, e := x.sub(y)
	return orEnd(rest, e, x < 0)
}

func (x number) times(y number) (number, api.Errno) {
	product, e := x.mul(y)
	return orEnd(product, e, (x < 0) != (y < 0))
}

// orEnd returns a result, or with an error the end of the numbers on the side of the true result.
func orEnd(n number, e api.Errno, below bool) (number, api.Errno) {
	switch {
	case e == api.OK:
		return n, api.OK
	case below:
		return least, api.OK
	default:
		return greatest, api.OK
	}
}

func (x number) eq(y number) (number, api.Errno) { return truth(x == y) }
func (x number) ne(y number) (number, api.Errno) { return truth(x != y) }
func (x number) lt(y number) (number, api.Errno) { return truth(x < y) }
func (x number) le(y number) (number, api.Errno) { return truth(x <= y) }
func (x number) gt(y number) (number, api.Errno) { return truth(x > y) }
func (x number) ge(y number) (number, api.Errno) { return truth(x >= y) }

func (x number) not() (number, api.Errno)         { return truth(x == 0) }
func (x number) and(y number) (number, api.Errno) { return truth(x != 0 && y != 0) }
func (x number) or(y number) (number, api.Errno)  { return truth(x != 0 || y != 0) }

func (x number) min(y number) (number, api.Errno) { return min(x, y), api.OK }
func (x number) max(y number) (number, api.Errno) { return max(x, y), api.OK }

// truth returns 1 for what is true, and 0 for what is not.
func truth(is bool) (number, api.Errno) {
	if is {
		return 1, api.OK
	}
	return 0, api.OK
}
