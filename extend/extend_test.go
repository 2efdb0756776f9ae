package extend_test

import (
	"math"
	"slices"
	"testing"

	"invigilator/api"
	"invigilator/arrays"
	"invigilator/extend"
	"invigilator/scalars"
	"invigilator/shapes"
)

const (
	least    = math.MinInt64
	greatest = math.MaxInt64
)

type pair = [2]int

// ints and chars return arrays with these parts, whatever they are.
func ints(rank int, lens pair, cells ...int64) api.Array {
	return api.Array{Kind: api.KInt, Rank: rank, Lens: lens, Cells: cells}
}

func chars(rank int, lens pair, cells ...int64) api.Array {
	return api.Array{Kind: api.KChar, Rank: rank, Lens: lens, Cells: cells}
}

// number and vector return int arrays of rank 0 and 1, letter and text those of chars.
func number(n int64) api.Array        { return ints(0, pair{}, n) }
func letter(r int64) api.Array        { return chars(0, pair{}, r) }
func vector(cells ...int64) api.Array { return ints(1, pair{len(cells), 0}, cells...) }
func text(cells ...int64) api.Array   { return chars(1, pair{len(cells), 0}, cells...) }

// square returns the matrix of the rows a b and c d.
func square(a, b, c, d int64) api.Array { return ints(2, pair{2, 2}, a, b, c, d) }

func equal(a, b api.Array) bool {
	return a.Kind == b.Kind && a.Rank == b.Rank && a.Lens == b.Lens && slices.Equal(a.Cells, b.Cells)
}

// is fails the test if an array is not the wanted one, or nothing beside an error.
func is(t *testing.T, p int, l []api.Array, a api.Array, e api.Errno, want api.Array, f api.Errno) {
	t.Helper()
	if f != api.OK {
		want = api.Array{}
	}
	if e != f || !equal(a, want) {
		t.Errorf("%d of %v: %v, %d, want %v, %d", p, l, a, e, want, f)
	}
}

// ones and twos are the primitives of one number and of two.
var (
	ones = []int{api.PrNeg, api.PrAbs, api.PrNot}
	twos = []int{
		api.PrAdd, api.PrSub, api.PrMul, api.PrDiv, api.PrMod, api.PrPlus, api.PrMinus, api.PrTimes,
		api.PrEq, api.PrNe, api.PrLt, api.PrLe, api.PrGt, api.PrGe, api.PrAnd, api.PrOr, api.PrMin, api.PrMax,
	}
)

// someShapes has shapes of all ranks, with few, many and no cells, and some with as many cells as others.
var someShapes = []struct {
	rank int
	lens pair
}{
	{0, pair{}},
	{1, pair{0, 0}}, {1, pair{1, 0}}, {1, pair{2, 0}}, {1, pair{6, 0}}, {1, pair{400, 0}},
	{2, pair{0, 0}}, {2, pair{0, 6}}, {2, pair{6, 0}}, {2, pair{1, 1}}, {2, pair{1, 2}}, {2, pair{2, 1}},
	{2, pair{2, 3}}, {2, pair{3, 2}}, {2, pair{1, 400}}, {2, pair{20, 20}}, {2, pair{400, 0}},
}

// The cells of arrays: farInts have an error in most places, smallInts in some, evenInts nearly never; runes are of chars.
var (
	farInts   = []int64{least, greatest, -1, 0, 1 << 32, least + 1, 3, -1 << 31}
	smallInts = []int64{2, -1, 3, 0, -7, 1}
	evenInts  = []int64{4, 2, 97, 8, 6}
	runes     = []int64{97, 98, 97, 0x10FFFF, 0, 0xE000, 2}
)

// shaped returns the array with these parts and these cells, again and again.
func shaped(kind, rank int, lens pair, cells []int64) api.Array {
	many, _ := shapes.Cells(rank, lens)
	again := slices.Repeat(cells, many/len(cells)+1)
	return api.Array{Kind: kind, Rank: rank, Lens: lens, Cells: again[:many:many]}
}

// goodInts and goodChars have arrays of both kinds with all these shapes, and scalars.
func goodInts() []api.Array {
	var list []api.Array
	for _, s := range someShapes {
		for _, cells := range [][]int64{farInts, smallInts, evenInts} {
			list = append(list, shaped(api.KInt, s.rank, s.lens, cells))
		}
	}
	for _, n := range []int64{least + 1, -97, -2, -1, 0, 1, 97, 1 << 32, 1<<32 + 97, greatest} {
		list = append(list, number(n))
	}
	return list
}

func goodChars() []api.Array {
	var list []api.Array
	for _, s := range someShapes {
		list = append(list, shaped(api.KChar, s.rank, s.lens, runes), shaped(api.KChar, s.rank, s.lens, runes[1:]))
	}
	return append(list, letter(0), letter(2), letter(0x10FFFF))
}

// bad has what is no array, in as many ways as there are.
func bad() []api.Array {
	return []api.Array{
		{},
		{Kind: 3, Rank: 1, Lens: pair{1, 0}, Cells: []int64{2}},
		{Kind: -1, Cells: []int64{2}},
		ints(3, pair{}, 5),
		ints(-1, pair{}, 5),
		chars(math.MinInt, pair{}, 97),
		ints(1, pair{-1, 0}),
		ints(2, pair{3, -1}),
		ints(0, pair{1, 0}, 5),
		ints(1, pair{2, 2}, 5, 6),
		ints(0, pair{}),
		ints(0, pair{}, 5, 6),
		ints(1, pair{2, 0}, 5),
		ints(1, pair{2, 0}, 5, 6, 7),
		chars(2, pair{2, 2}, 97, 98, 99),
		ints(1, pair{401, 0}, make([]int64, 401)...),
		ints(2, pair{21, 20}, make([]int64, 420)...),
		ints(2, pair{math.MaxInt, math.MaxInt}),
		chars(2, pair{0, 401}),
		chars(0, pair{}, 55296),
		chars(1, pair{2, 0}, 97, -1),
	}
}

func all() []api.Array { return slices.Concat(goodInts(), goodChars(), bad()) }

// wantOne, wantTwo and wantLens are the promises.
func wantOne(p int, a api.Array) (api.Array, api.Errno) {
	if !slices.Contains(ones, p) {
		return api.Array{}, api.ErrArg
	}
	if e := arrays.Check(a); e != api.OK {
		return api.Array{}, e
	}
	if a.Kind != api.KInt {
		return api.Array{}, api.ErrKind
	}
	want := ints(a.Rank, a.Lens)
	for _, x := range a.Cells {
		n, e := scalars.One(p, x)
		if e != api.OK {
			return api.Array{}, e
		}
		want.Cells = append(want.Cells, n)
	}
	return want, api.OK
}

func wantTwo(p int, a, b api.Array) (api.Array, api.Errno) {
	if !slices.Contains(twos, p) {
		return api.Array{}, api.ErrArg
	}
	rank, lens, e := wantLens(a, b)
	switch {
	case arrays.Check(a) != api.OK || arrays.Check(b) != api.OK:
		return api.Array{}, e
	case a.Kind != b.Kind, a.Kind == api.KChar && p != api.PrEq && p != api.PrNe:
		return api.Array{}, api.ErrKind
	case e != api.OK:
		return api.Array{}, e
	}
	want := ints(rank, lens)
	many, _ := shapes.Cells(rank, lens)
	first, second := spread(a, many), spread(b, many)
	for place := range many {
		n, e := scalars.Two(p, first[place], second[place])
		if e != api.OK {
			return api.Array{}, e
		}
		want.Cells = append(want.Cells, n)
	}
	return want, api.OK
}

func wantLens(a, b api.Array) (int, pair, api.Errno) {
	for _, x := range []api.Array{a, b} {
		if e := arrays.Check(x); e != api.OK {
			return 0, pair{}, e
		}
	}
	switch {
	case a.Rank == 0:
		return b.Rank, b.Lens, api.OK
	case b.Rank == 0:
		return a.Rank, a.Lens, api.OK
	case a.Rank != b.Rank:
		return 0, pair{}, api.ErrRank
	case a.Lens != b.Lens:
		return 0, pair{}, api.ErrLength
	default:
		return a.Rank, a.Lens, api.OK
	}
}

// spread returns the cells of an array; of a scalar so many copies of its cell.
func spread(a api.Array, many int) []int64 {
	if a.Rank == 0 {
		return slices.Repeat(a.Cells, many)
	}
	return a.Cells
}

// askOne, askTwo and askLens compare a call with the promises; its arguments must stay (P10.6).
func askOne(t *testing.T, p int, a api.Array) {
	t.Helper()
	want, f := wantOne(p, a)
	kept := slices.Clone(a.Cells)
	b, e := extend.One(p, a)
	is(t, p, []api.Array{a}, b, e, want, f)
	if !slices.Equal(a.Cells, kept) {
		t.Errorf("One of %d has changed its argument: %v, was %v", p, a.Cells, kept)
	}
}

func askTwo(t *testing.T, p int, a, b api.Array) {
	t.Helper()
	want, f := wantTwo(p, a, b)
	kept, left := slices.Clone(a.Cells), slices.Clone(b.Cells)
	c, e := extend.Two(p, a, b)
	is(t, p, []api.Array{a, b}, c, e, want, f)
	if !slices.Equal(a.Cells, kept) || !slices.Equal(b.Cells, left) {
		t.Errorf("Two of %d has changed an argument: %v, was %v; %v, was %v", p, a.Cells, kept, b.Cells, left)
	}
}

func askLens(t *testing.T, a, b api.Array) {
	t.Helper()
	rank, lens, e := extend.Lens(a, b)
	if r, l, f := wantLens(a, b); rank != r || lens != l || e != f {
		t.Errorf("Lens of %v, %v: %d, %v, %d, want %d, %v, %d", a, b, rank, lens, e, r, l, f)
	}
}

// P10.1 to P10.3, for all operands.

func TestOneOfAll(t *testing.T) {
	for _, a := range all() {
		for _, p := range ones {
			askOne(t, p, a)
		}
	}
}

func TestTwoOfAll(t *testing.T) {
	list := all()
	for _, a := range list {
		for _, b := range list {
			for _, p := range twos {
				askTwo(t, p, a, b)
			}
		}
	}
}

func TestLensOfAll(t *testing.T) {
	list := all()
	for _, a := range list {
		for _, b := range list {
			askLens(t, a, b)
		}
	}
}

// TestNoPrimitive asks for all p near the primitives, and some far ones: ErrArg comes first, whatever the operands are.
func TestNoPrimitive(t *testing.T) {
	list := []int{math.MinInt, math.MaxInt, 1 << 32, 1<<32 + api.PrNeg, 1<<32 + api.PrAdd, -1 << 32, -1<<32 + api.PrAdd}
	for p := -600; p <= 600; p++ {
		list = append(list, p)
	}
	some := []api.Array{number(5), vector(5, 6), letter(97), {}, ints(3, pair{}, 5)}
	for _, p := range list {
		for _, a := range some {
			askOne(t, p, a)
			for _, b := range some {
				askTwo(t, p, a, b)
			}
		}
	}
}

// P10.1: One.

func TestOne(t *testing.T) {
	for _, x := range []struct {
		p       int
		a, want api.Array
		e       api.Errno
	}{
		{api.PrNeg, vector(1, -2), vector(-1, 2), api.OK},
		{api.PrNot, letter(97), api.Array{}, api.ErrKind},
		{api.PrNeg, number(5), number(-5), api.OK},
		{api.PrNeg, square(1, 0, -3, greatest), square(-1, 0, 3, -greatest), api.OK},
		{api.PrAbs, ints(2, pair{1, 3}, -1, 0, 2), ints(2, pair{1, 3}, 1, 0, 2), api.OK},
		{api.PrNot, vector(0, 3, -1, least), vector(1, 0, 0, 0), api.OK},
		{api.PrNeg, vector(), vector(), api.OK},
		{api.PrAbs, ints(2, pair{0, 7}), ints(2, pair{0, 7}), api.OK},
		{api.PrNot, ints(2, pair{7, 0}), ints(2, pair{7, 0}), api.OK},
		{api.PrNeg, number(least), api.Array{}, api.ErrOverflow},
		{api.PrAbs, vector(-1, least), api.Array{}, api.ErrOverflow},
		{api.PrNeg, square(1, 2, 3, least), api.Array{}, api.ErrOverflow},
		{api.PrNeg, text(97, 98), api.Array{}, api.ErrKind},
		{api.PrAbs, text(), api.Array{}, api.ErrKind},
		{api.PrAbs, chars(2, pair{1, 1}, 97), api.Array{}, api.ErrKind},
		{api.PrNeg, api.Array{}, api.Array{}, api.ErrArg},
		{api.PrNeg, ints(1, pair{2, 0}, 5), api.Array{}, api.ErrForm},
		{api.PrNeg, chars(0, pair{}, 55296), api.Array{}, api.ErrRange}, // before its kind
		{api.PrNot, ints(1, pair{401, 0}, make([]int64, 401)...), api.Array{}, api.ErrCells},
		{api.PrAdd, vector(1), api.Array{}, api.ErrArg},
		{api.PrAdd, letter(97), api.Array{}, api.ErrArg},
		{api.PrShape, vector(1), api.Array{}, api.ErrArg},
		{0, ints(1, pair{2, 0}, 5), api.Array{}, api.ErrArg},
		{-1, number(1), api.Array{}, api.ErrArg},
	} {
		a, e := extend.One(x.p, x.a)
		is(t, x.p, []api.Array{x.a}, a, e, x.want, x.e)
	}
}

// P10.2: Two.

func TestTwo(t *testing.T) {
	short := ints(1, pair{2, 0}, 5)      // ErrForm
	surrogate := chars(0, pair{}, 55296) // ErrRange
	full := shaped(api.KInt, 1, pair{400}, []int64{1})
	for _, x := range []struct {
		p          int
		a, b, want api.Array
		e          api.Errno
	}{
		{api.PrAdd, vector(1, 2, 3), number(10), vector(11, 12, 13), api.OK},
		{api.PrAdd, number(10), vector(1, 2, 3), vector(11, 12, 13), api.OK},
		{api.PrMul, square(1, 2, 3, 4), square(0, 1, 2, 0), square(0, 2, 6, 0), api.OK},
		{api.PrEq, text(97, 98, 97), letter(97), vector(1, 0, 1), api.OK},
		{api.PrEq, letter(97), number(97), api.Array{}, api.ErrKind},
		{api.PrAdd, vector(1, 2), vector(1, 2, 3), api.Array{}, api.ErrLength},
		{api.PrAdd, vector(1, 2), square(1, 2, 3, 4), api.Array{}, api.ErrRank},
		{api.PrDiv, vector(least, 1), vector(-1, 0), api.Array{}, api.ErrOverflow},
		{api.PrDiv, vector(1, least), vector(0, -1), api.Array{}, api.ErrDomain},

		// Operands in order, and scalars on either side.
		{api.PrSub, vector(1, 2, 3), vector(3, 2, 0), vector(-2, 0, 3), api.OK},
		{api.PrSub, number(10), vector(1, 2), vector(9, 8), api.OK},
		{api.PrSub, vector(1, 2), number(10), vector(-9, -8), api.OK},
		{api.PrDiv, number(7), square(1, 2, -2, 7), square(7, 3, -4, 1), api.OK},
		{api.PrMod, square(7, -7, 8, 0), number(2), square(1, 1, 0, 0), api.OK},
		{api.PrSub, number(3), number(5), number(-2), api.OK},
		{api.PrPlus, vector(greatest, least), vector(1, -1), vector(greatest, least), api.OK},
		{api.PrMin, ints(2, pair{1, 3}, 1, 5, 3), ints(2, pair{1, 3}, 2, 4, 3), ints(2, pair{1, 3}, 1, 4, 3), api.OK},
		{api.PrAdd, full, number(1), shaped(api.KInt, 1, pair{400}, []int64{2}), api.OK},
		{api.PrMul, full, number(greatest), shaped(api.KInt, 1, pair{400}, []int64{greatest}), api.OK},

		// No cells, so no errors of cells.
		{api.PrDiv, vector(), number(0), vector(), api.OK},
		{api.PrDiv, number(1), ints(2, pair{0, 7}), ints(2, pair{0, 7}), api.OK},
		{api.PrMod, ints(2, pair{7, 0}), number(0), ints(2, pair{7, 0}), api.OK},
		{api.PrAdd, vector(), vector(), vector(), api.OK},
		{api.PrEq, text(), text(), vector(), api.OK},
		{api.PrNe, letter(97), chars(2, pair{3, 0}), ints(2, pair{3, 0}), api.OK},

		// Characters, and both kinds.
		{api.PrNe, text(97, 98), text(97, 99), vector(0, 1), api.OK},
		{api.PrEq, chars(2, pair{2, 1}, 97, 0x10FFFF), letter(0x10FFFF), ints(2, pair{2, 1}, 0, 1), api.OK},
		{api.PrEq, letter(97), letter(97), number(1), api.OK},
		{api.PrNe, vector(97), text(97), api.Array{}, api.ErrKind},
		{api.PrEq, text(), vector(), api.Array{}, api.ErrKind},
		{api.PrLt, text(97), text(98), api.Array{}, api.ErrKind},
		{api.PrMax, letter(97), letter(98), api.Array{}, api.ErrKind},
		{api.PrAdd, vector(1), text(97), api.Array{}, api.ErrKind},
		{api.PrAdd, text(97), vector(1), api.Array{}, api.ErrKind},
		{api.PrAnd, text(), text(), api.Array{}, api.ErrKind},

		// Shapes.
		{api.PrAdd, vector(1), square(1, 2, 3, 4), api.Array{}, api.ErrRank},
		{api.PrEq, ints(2, pair{1, 1}, 1), vector(1), api.Array{}, api.ErrRank},
		{api.PrAdd, vector(), ints(2, pair{}), api.Array{}, api.ErrRank},
		{api.PrAdd, vector(1), vector(1, 2), api.Array{}, api.ErrLength}, // a vector of one cell is no scalar
		{api.PrAdd, ints(2, pair{1, 2}, 1, 2), ints(2, pair{2, 1}, 1, 2), api.Array{}, api.ErrLength},
		{api.PrAdd, ints(2, pair{0, 2}), ints(2, pair{2, 0}), api.Array{}, api.ErrLength},
		{api.PrEq, ints(2, pair{2, 3}, 1, 2, 3, 4, 5, 6), ints(2, pair{2, 2}, 1, 2, 3, 4), api.Array{}, api.ErrLength},
		{api.PrNe, text(97, 98), text(97), api.Array{}, api.ErrLength},

		// The first error of cells, row by row.
		{api.PrAdd, vector(1, greatest), vector(2, 1), api.Array{}, api.ErrOverflow},
		{api.PrMod, vector(1, 2), vector(1, 0), api.Array{}, api.ErrDomain},
		{api.PrDiv, square(1, least, 1, 1), square(1, -1, 0, 1), api.Array{}, api.ErrOverflow},
		{api.PrDiv, square(1, 1, least, 1), square(1, 0, -1, 1), api.Array{}, api.ErrDomain},
		{api.PrDiv, square(1, 1, least, 1), square(1, 1, -1, 0), api.Array{}, api.ErrOverflow},
		{api.PrDiv, square(1, 1, 1, least), square(1, 1, 0, -1), api.Array{}, api.ErrDomain},
		{api.PrDiv, number(least), vector(1, -1, 0), api.Array{}, api.ErrOverflow},
		{api.PrDiv, number(least), vector(1, 0, -1), api.Array{}, api.ErrDomain},
		{api.PrDiv, vector(1, least), number(-1), api.Array{}, api.ErrOverflow},
		{api.PrDiv, number(least), number(-1), api.Array{}, api.ErrOverflow},
		{api.PrDiv, full, shaped(api.KInt, 1, pair{400}, append(slices.Repeat([]int64{1}, 399), 0)), api.Array{}, api.ErrDomain},

		// Which error comes first.
		{api.PrNeg, short, surrogate, api.Array{}, api.ErrArg},
		{api.PrTake, number(1), vector(1), api.Array{}, api.ErrArg},
		{0, short, short, api.Array{}, api.ErrArg},
		{api.PrAdd, short, surrogate, api.Array{}, api.ErrForm},
		{api.PrAdd, surrogate, short, api.Array{}, api.ErrRange},
		{api.PrAdd, vector(1), surrogate, api.Array{}, api.ErrRange},
		{api.PrAdd, letter(97), short, api.Array{}, api.ErrForm},
		{api.PrEq, short, letter(97), api.Array{}, api.ErrForm},
		{api.PrAdd, vector(1, 2), text(97), api.Array{}, api.ErrKind},
		{api.PrEq, vector(1, 2), chars(2, pair{1, 1}, 97), api.Array{}, api.ErrKind},
		{api.PrDiv, vector(1, 2), vector(0), api.Array{}, api.ErrLength},
		{api.PrDiv, vector(1, 2), ints(2, pair{1, 1}), api.Array{}, api.ErrForm},
		{api.PrDiv, vector(1), ints(2, pair{1, 1}, 0), api.Array{}, api.ErrRank},
	} {
		a, e := extend.Two(x.p, x.a, x.b)
		is(t, x.p, []api.Array{x.a, x.b}, a, e, x.want, x.e)
	}
}

// P10.3: Lens.

func TestLens(t *testing.T) {
	for _, x := range []struct {
		a, b api.Array
		rank int
		lens pair
		e    api.Errno
	}{
		{number(1), number(2), 0, pair{}, api.OK},
		{number(1), vector(1, 2), 1, pair{2, 0}, api.OK},
		{vector(1, 2), number(1), 1, pair{2, 0}, api.OK},
		{square(1, 2, 3, 4), letter(97), 2, pair{2, 2}, api.OK}, // of any kinds
		{number(1), chars(2, pair{0, 7}), 2, pair{0, 7}, api.OK},
		{vector(97), text(97), 1, pair{1, 0}, api.OK},
		{vector(), text(), 1, pair{}, api.OK},
		{ints(2, pair{}), ints(2, pair{}), 2, pair{}, api.OK},
		{vector(1, 2), vector(1, 2, 3), 0, pair{}, api.ErrLength},
		{vector(1), vector(), 0, pair{}, api.ErrLength},
		{vector(1, 2), text(97), 0, pair{}, api.ErrLength},
		{ints(2, pair{1, 2}, 1, 2), ints(2, pair{2, 1}, 1, 2), 0, pair{}, api.ErrLength},
		{ints(2, pair{0, 7}), ints(2, pair{7, 0}), 0, pair{}, api.ErrLength},
		{vector(1), ints(2, pair{1, 1}, 1), 0, pair{}, api.ErrRank},
		{square(1, 2, 3, 4), vector(1, 2), 0, pair{}, api.ErrRank},
		{vector(), chars(2, pair{}), 0, pair{}, api.ErrRank},
		{api.Array{}, ints(1, pair{2, 0}, 5), 0, pair{}, api.ErrArg},
		{ints(1, pair{2, 0}, 5), api.Array{}, 0, pair{}, api.ErrForm},
		{number(1), chars(0, pair{}, 55296), 0, pair{}, api.ErrRange},
		{ints(2, pair{1, 401}), vector(1), 0, pair{}, api.ErrCells},
		{vector(1), ints(2, pair{21, 20}, make([]int64, 420)...), 0, pair{}, api.ErrCells},
	} {
		rank, lens, e := extend.Lens(x.a, x.b)
		if rank != x.rank || lens != x.lens || e != x.e {
			t.Errorf("Lens of %v, %v: %d, %v, %d, want %d, %v, %d", x.a, x.b, rank, lens, e, x.rank, x.lens, x.e)
		}
	}
}
