package folds_test

import (
	"math"
	"math/big"
	"slices"
	"testing"

	"invigilator/api"
	"invigilator/arrays"
	"invigilator/folds"
	"invigilator/shapes"
)

const (
	least    = math.MinInt64
	greatest = math.MaxInt64
)

type pair = [2]int

// ints and chars return arrays with these parts, whatever they are.
func ints(rank int, lens pair, cells ...int64) api.Array {
	return api.Array{Kind: api.KInt, Rank: rank, Lens: lens, Cells: cells}
}

func chars(rank int, lens pair, cells ...int64) api.Array {
	return api.Array{Kind: api.KChar, Rank: rank, Lens: lens, Cells: cells}
}

// number and vector return int arrays of rank 0 and 1, letter and text those of chars.
func number(n int64) api.Array        { return ints(0, pair{}, n) }
func letter(r int64) api.Array        { return chars(0, pair{}, r) }
func vector(cells ...int64) api.Array { return ints(1, pair{len(cells), 0}, cells...) }
func text(cells ...int64) api.Array   { return chars(1, pair{len(cells), 0}, cells...) }

// square returns the matrix of the rows a b and c d.
func square(a, b, c, d int64) api.Array { return ints(2, pair{2, 2}, a, b, c, d) }

// m is that of the chapter's examples.
var m = ints(2, pair{2, 3}, 1, 2, 3, 4, 5, 6)

func equal(a, b api.Array) bool {
	return a.Kind == b.Kind && a.Rank == b.Rank && a.Lens == b.Lens && slices.Equal(a.Cells, b.Cells)
}

// is fails the test if an array is not the wanted one, or nothing beside an error.
func is(t *testing.T, name string, of api.Array, a api.Array, e api.Errno, want api.Array, f api.Errno) {
	t.Helper()
	if f != api.OK {
		want = api.Array{}
	}
	if e != f || !equal(a, want) {
		t.Errorf("%s of %v: %v, %d, want %v, %d", name, of, a, e, want, f)
	}
}

// fold is a primitive of this layer: what it does, whether its operand must have ints, whether it has one cell for each row, and what it makes of a row: one cell, or as many as the row has.
type fold struct {
	name string
	do   func(a api.Array) (api.Array, api.Errno)
	ints bool
	one  bool
	row  func(row []int64) ([]int64, api.Errno)
}

func all() []fold {
	return []fold{
		{"Sum", folds.Sum, true, true, sumOf},
		{"Least", folds.Least, true, true, leastOf},
		{"Most", folds.Most, true, true, mostOf},
		{"Count", folds.Count, false, true, countOf},
		{"Scan", folds.Scan, true, false, scanOf},
	}
}

// sumOf, leastOf, mostOf, countOf and scanOf are the table, for one row.
func sumOf(row []int64) ([]int64, api.Errno) {
	list, e := scanOf(row)
	if e != api.OK {
		return nil, e
	}
	if len(list) == 0 {
		return []int64{0}, api.OK
	}
	return list[len(list)-1:], api.OK
}

func leastOf(row []int64) ([]int64, api.Errno) {
	if len(row) == 0 {
		return nil, api.ErrDomain
	}
	return []int64{slices.Min(row)}, api.OK
}

func mostOf(row []int64) ([]int64, api.Errno) {
	if len(row) == 0 {
		return nil, api.ErrDomain
	}
	return []int64{slices.Max(row)}, api.OK
}

func countOf(row []int64) ([]int64, api.Errno) { return []int64{int64(len(row))}, api.OK }

func scanOf(row []int64) ([]int64, api.Errno) {
	var list []int64
	sum := new(big.Int)
	for _, cell := range row {
		sum.Add(sum, big.NewInt(cell))
		if !sum.IsInt64() {
			return nil, api.ErrOverflow
		}
		list = append(list, sum.Int64())
	}
	return list, api.OK
}

// want returns what the promises say of a fold: the errors that all have, in their order, and then the table, row by row.
func (f fold) want(a api.Array) (api.Array, api.Errno) {
	if e := arrays.Check(a); e != api.OK {
		return api.Array{}, e
	}
	if f.ints && a.Kind != api.KInt {
		return api.Array{}, api.ErrKind
	}
	if a.Rank == 0 {
		return api.Array{}, api.ErrRank
	}
	want := api.Array{Kind: api.KInt, Rank: a.Rank, Lens: a.Lens}
	if f.one {
		// The last axis is no more.
		want.Rank = a.Rank - 1
		want.Lens[want.Rank] = 0
	}
	for _, row := range rowsOf(a) {
		cells, e := f.row(row)
		if e != api.OK {
			return api.Array{}, e
		}
		want.Cells = append(want.Cells, cells...)
	}
	return want, api.OK
}

// rowsOf returns copies of the rows of a vector or a matrix.
func rowsOf(a api.Array) [][]int64 {
	if a.Rank == 1 {
		return [][]int64{slices.Clone(a.Cells)}
	}
	var list [][]int64
	for i := range a.Lens[0] {
		list = append(list, slices.Clone(a.Cells[i*a.Lens[1]:(i+1)*a.Lens[1]]))
	}
	return list
}

// ask compares a call with the promises; its argument must stay (P11.6).
func (f fold) ask(t *testing.T, a api.Array) {
	t.Helper()
	want, e := f.want(a)
	kept := slices.Clone(a.Cells)
	b, g := f.do(a)
	is(t, f.name, a, b, g, want, e)
	if !slices.Equal(a.Cells, kept) {
		t.Errorf("%s has changed its argument: %v, was %v", f.name, a.Cells, kept)
	}
	if g == api.OK && arrays.Check(b) != api.OK {
		t.Errorf("%s of %v: %v is no array", f.name, a, b)
	}
}

// someShapes has shapes of all ranks, with few, many and no cells, and some with as many cells as others.
var someShapes = []struct {
	rank int
	lens pair
}{
	{0, pair{}},
	{1, pair{0, 0}}, {1, pair{1, 0}}, {1, pair{2, 0}}, {1, pair{3, 0}}, {1, pair{6, 0}}, {1, pair{7, 0}}, {1, pair{399, 0}}, {1, pair{400, 0}},
	{2, pair{0, 0}}, {2, pair{0, 1}}, {2, pair{0, 6}}, {2, pair{0, 400}}, {2, pair{1, 0}}, {2, pair{2, 0}}, {2, pair{6, 0}}, {2, pair{400, 0}},
	{2, pair{1, 1}}, {2, pair{1, 2}}, {2, pair{2, 1}}, {2, pair{2, 2}}, {2, pair{2, 3}}, {2, pair{3, 2}}, {2, pair{3, 5}},
	{2, pair{20, 20}}, {2, pair{400, 1}}, {2, pair{1, 400}}, {2, pair{2, 200}}, {2, pair{200, 2}}, {2, pair{133, 3}},
}

// The cells of arrays: farInts have sums beyond the numbers in nearly all rows; endInts go to both ends, and back; 400 halfInts are just not beyond them, nor are lowInts; smallInts are beyond nothing; runes are of chars.
var (
	farInts   = []int64{greatest, greatest, least, -1, 1 << 62, 0, least}
	endInts   = []int64{greatest, least, 1, -1, 0, 1, -2, 1}
	halfInts  = []int64{greatest / 400}
	lowInts   = []int64{least / 400, -1, least / 400, 1}
	smallInts = []int64{2, -1, 3, 0, -7, 1 << 32, 1, 3, -1 << 32}
	downInts  = []int64{-1, -2, -3, -5, -1<<32 - 1}
	runes     = []int64{97, 98, 97, 0x10FFFF, 0, 0xE000, 2}
)

// shaped returns the array with these parts and these cells, again and again.
func shaped(kind, rank int, lens pair, cells []int64) api.Array {
	many, _ := shapes.Cells(rank, lens)
	again := slices.Repeat(cells, many/len(cells)+1)
	return api.Array{Kind: kind, Rank: rank, Lens: lens, Cells: again[:many:many]}
}

// goodInts and goodChars have arrays of both kinds with all these shapes.
func goodInts() []api.Array {
	var list []api.Array
	for _, s := range someShapes {
		for _, cells := range [][]int64{farInts, endInts, halfInts, lowInts, smallInts, downInts} {
			for i := range cells {
				turned := slices.Concat(cells[i:], cells[:i])
				list = append(list, shaped(api.KInt, s.rank, s.lens, turned))
			}
		}
	}
	return list
}

func goodChars() []api.Array {
	var list []api.Array
	for _, s := range someShapes {
		list = append(list, shaped(api.KChar, s.rank, s.lens, runes), shaped(api.KChar, s.rank, s.lens, runes[1:]))
	}
	return list
}

// good has arrays of both kinds.
func good() []api.Array { return slices.Concat(goodInts(), goodChars()) }

// bad has what is no array, with what arrays.Check returns.
var bad = []struct {
	a api.Array
	e api.Errno
}{
	{api.Array{}, api.ErrArg},
	{api.Array{Kind: 3, Rank: 1, Lens: pair{1, 0}, Cells: []int64{2}}, api.ErrArg},
	{api.Array{Kind: -1, Cells: []int64{2}}, api.ErrArg},
	{api.Array{Kind: math.MaxInt, Rank: 2, Lens: pair{1, 1}, Cells: []int64{1}}, api.ErrArg},
	{ints(3, pair{}, 5), api.ErrRange},
	{ints(-1, pair{}, 5), api.ErrRange},
	{chars(math.MinInt, pair{}, 97), api.ErrRange},
	{ints(1, pair{-1, 0}), api.ErrRange},
	{ints(2, pair{3, -1}), api.ErrRange},
	{ints(0, pair{1, 0}, 5), api.ErrForm},
	{ints(1, pair{2, 2}, 5, 6), api.ErrForm},
	{ints(0, pair{}), api.ErrForm},
	{ints(0, pair{}, 5, 6), api.ErrForm},
	{ints(1, pair{2, 0}, 5), api.ErrForm},
	{ints(1, pair{2, 0}, 5, 6, 7), api.ErrForm},
	{chars(2, pair{2, 2}, 97, 98, 99), api.ErrForm},
	{ints(2, pair{0, 7}, 1), api.ErrForm},
	{ints(2, pair{7, 0}, 1), api.ErrForm},
	{ints(1, pair{401, 0}, make([]int64, 401)...), api.ErrCells},
	{ints(2, pair{21, 20}, make([]int64, 420)...), api.ErrCells},
	{ints(2, pair{math.MaxInt, math.MaxInt}), api.ErrCells},
	{chars(2, pair{0, 401}), api.ErrCells},
	{ints(2, pair{401, 0}), api.ErrCells},
	{chars(0, pair{}, 55296), api.ErrRange},
	{chars(1, pair{2, 0}, 97, -1), api.ErrRange},
	{chars(2, pair{1, 2}, 97, 1114112), api.ErrRange},
}

// each calls do with all vectors of at most 4 cells, and with all matrices of at most 4 cells that have such cells, of these numbers.
func each(numbers []int64, do func(a api.Array)) {
	var cells []int64
	var further func()
	further = func() {
		many := len(cells)
		do(vector(cells...))
		for rows := 1; rows <= many; rows++ {
			if many%rows == 0 {
				do(ints(2, pair{rows, many / rows}, cells...))
			}
		}
		if many == 4 {
			return
		}
		for _, n := range numbers {
			cells = append(cells, n)
			further()
			cells = cells[:many]
		}
	}
	further()
}

// P11.1 and P11.2, for all operands.

func TestAll(t *testing.T) {
	for _, f := range all() {
		for _, a := range good() {
			f.ask(t, a)
		}
		each([]int64{least, least + 1, -1, 0, 1, greatest - 1, greatest}, func(a api.Array) { f.ask(t, a) })
		each([]int64{-2, 1, 3, 1 << 62, -1 << 62}, func(a api.Array) { f.ask(t, a) })
	}
}

func TestNoArray(t *testing.T) {
	for _, f := range all() {
		for _, x := range bad {
			f.ask(t, x.a)
			a, e := f.do(x.a)
			is(t, f.name, x.a, a, e, api.Array{}, x.e)
		}
	}
}

// TestScalars asks for scalars of both kinds: their kind is looked at before their rank.
func TestScalars(t *testing.T) {
	for _, f := range all() {
		for _, n := range []int64{least, -1, 0, 1, 97, greatest} {
			a, e := f.do(number(n))
			is(t, f.name, number(n), a, e, api.Array{}, api.ErrRank)
		}
		a, e := f.do(letter(97))
		if f.name == "Count" {
			is(t, f.name, letter(97), a, e, api.Array{}, api.ErrRank)
		} else {
			is(t, f.name, letter(97), a, e, api.Array{}, api.ErrKind)
		}
	}
}

// row is a call, and what the document says of it.
type row struct {
	a, want api.Array
	e       api.Errno
}

func table(t *testing.T, name string, do func(a api.Array) (api.Array, api.Errno), rows []row) {
	t.Helper()
	for _, x := range rows {
		a, e := do(x.a)
		is(t, name, x.a, a, e, x.want, x.e)
	}
}

// full returns the vector of 400 cells like this one, long the matrix of so many rows that has them.
func full(n int64) api.Array { return shaped(api.KInt, 1, pair{400, 0}, []int64{n}) }
func long(rows int, n int64) api.Array {
	return shaped(api.KInt, 2, pair{rows, 400 / rows}, []int64{n})
}

// P11.1: Sum, Scan.

func TestSum(t *testing.T) {
	table(t, "Sum", folds.Sum, []row{
		{m, vector(6, 15), api.OK},
		{vector(greatest, 1, -1), api.Array{}, api.ErrOverflow},
		{number(5), api.Array{}, api.ErrRank},
		{text(97, 98), api.Array{}, api.ErrKind},
		{ints(2, pair{2, 0}), vector(0, 0), api.OK},
		{vector(5, -7, 3), number(1), api.OK},
		{vector(5), number(5), api.OK},
		{vector(), number(0), api.OK},
		{ints(2, pair{1, 3}, 1, 2, 3), vector(6), api.OK},
		{ints(2, pair{3, 1}, 1, 2, 3), vector(1, 2, 3), api.OK},
		{ints(2, pair{3, 2}, 1, 2, 3, 4, 5, 6), vector(3, 7, 11), api.OK},
		{ints(2, pair{0, 3}), vector(), api.OK},
		{ints(2, pair{}), vector(), api.OK},
		{ints(2, pair{400, 0}), full(0), api.OK},
		{full(3), number(1200), api.OK},
		{long(400, 3), full(3), api.OK},
		{long(1, -3), vector(-1200), api.OK},

		// The ends of the numbers, which are reached from the left to the right.
		{vector(greatest), number(greatest), api.OK},
		{vector(least), number(least), api.OK},
		{vector(least, greatest, 1), number(0), api.OK},
		{vector(greatest, -1, 1), number(greatest), api.OK},
		{vector(1, -1, greatest), number(greatest), api.OK},
		{vector(-1, greatest, 1), number(greatest), api.OK},
		{vector(greatest, 1), api.Array{}, api.ErrOverflow},
		{vector(least, -1, 1), api.Array{}, api.ErrOverflow},
		{vector(1<<62, 1<<62, least), api.Array{}, api.ErrOverflow},
		{vector(-1<<62, -1<<62), number(least), api.OK},
		{full(greatest / 400), number(greatest / 400 * 400), api.OK},
		{full(greatest/400 + 1), api.Array{}, api.ErrOverflow},
		{full(least/400 - 1), api.Array{}, api.ErrOverflow},
		{square(greatest, 0, greatest, 0), vector(greatest, greatest), api.OK}, // each row for itself
		{square(greatest, 1, 0, 0), api.Array{}, api.ErrOverflow},
		{square(0, 0, greatest, 1), api.Array{}, api.ErrOverflow},
		{square(0, 0, least, -1), api.Array{}, api.ErrOverflow},

		// Which error comes first.
		{api.Array{}, api.Array{}, api.ErrArg},
		{chars(1, pair{2, 0}, 97), api.Array{}, api.ErrForm},
		{chars(0, pair{}, 55296), api.Array{}, api.ErrRange},
		{letter(97), api.Array{}, api.ErrKind},
		{text(), api.Array{}, api.ErrKind},
		{chars(2, pair{0, 3}), api.Array{}, api.ErrKind},
	})
}

func TestScan(t *testing.T) {
	table(t, "Scan", folds.Scan, []row{
		{m, ints(2, pair{2, 3}, 1, 3, 6, 4, 9, 15), api.OK},
		{vector(5, -7, 3), vector(5, -2, 1), api.OK},
		{vector(5), vector(5), api.OK},
		{vector(), vector(), api.OK},
		{ints(2, pair{1, 3}, 1, 2, 3), ints(2, pair{1, 3}, 1, 3, 6), api.OK},
		{ints(2, pair{3, 1}, 1, 2, 3), ints(2, pair{3, 1}, 1, 2, 3), api.OK},
		{ints(2, pair{0, 3}), ints(2, pair{0, 3}), api.OK},
		{ints(2, pair{3, 0}), ints(2, pair{3, 0}), api.OK},
		{ints(2, pair{}), ints(2, pair{}), api.OK},
		{ints(2, pair{400, 0}), ints(2, pair{400, 0}), api.OK},
		{long(400, 3), long(400, 3), api.OK},
		{long(200, 3), shaped(api.KInt, 2, pair{200, 2}, []int64{3, 6}), api.OK},
		{vector(least, greatest, 1), vector(least, -1, 0), api.OK},
		{vector(-1, greatest, 1), vector(-1, greatest-1, greatest), api.OK},
		{square(greatest, 0, least, 0), square(greatest, greatest, least, least), api.OK},
		{vector(greatest, 1, -1), api.Array{}, api.ErrOverflow},
		{vector(least, -1, 1), api.Array{}, api.ErrOverflow},
		{square(greatest, 1, 0, 0), api.Array{}, api.ErrOverflow},
		{square(0, 0, greatest, 1), api.Array{}, api.ErrOverflow},
		{full(greatest/400 + 1), api.Array{}, api.ErrOverflow},
		{number(5), api.Array{}, api.ErrRank},
		{text(97, 98), api.Array{}, api.ErrKind},
		{letter(97), api.Array{}, api.ErrKind},
		{chars(0, pair{}, 55296), api.Array{}, api.ErrRange},
		{ints(1, pair{2, 0}, 5), api.Array{}, api.ErrForm},
	})
}

// P11.2: Least, Most, Count.

func TestLeast(t *testing.T) {
	table(t, "Least", folds.Least, []row{
		{vector(3, 1, 2), number(1), api.OK},
		{ints(2, pair{2, 0}), api.Array{}, api.ErrDomain},
		{ints(2, pair{0, 2}), vector(), api.OK},
		{ints(2, pair{}), vector(), api.OK},
		{vector(), api.Array{}, api.ErrDomain},
		{m, vector(1, 4), api.OK},
		{ints(2, pair{3, 2}, 2, 1, 3, 4, -5, -6), vector(1, 3, -6), api.OK},
		{ints(2, pair{3, 1}, 2, -1, 3), vector(2, -1, 3), api.OK},
		{vector(5), number(5), api.OK},
		{vector(greatest), number(greatest), api.OK},
		{vector(greatest, greatest), number(greatest), api.OK},
		{vector(greatest, 0, least, 1), number(least), api.OK},
		{square(greatest, greatest, 1<<32, 3), vector(greatest, 3), api.OK},
		{full(7), number(7), api.OK},
		{long(400, greatest), full(greatest), api.OK},
		{ints(2, pair{400, 0}), api.Array{}, api.ErrDomain},
		{number(5), api.Array{}, api.ErrRank},
		{text(97, 98), api.Array{}, api.ErrKind},
		{text(), api.Array{}, api.ErrKind},
		{letter(97), api.Array{}, api.ErrKind},
		{ints(1, pair{2, 0}), api.Array{}, api.ErrForm},
	})
}

func TestMost(t *testing.T) {
	table(t, "Most", folds.Most, []row{
		{vector(), api.Array{}, api.ErrDomain},
		{vector(1, 3, 2), number(3), api.OK},
		{m, vector(3, 6), api.OK},
		{ints(2, pair{2, 0}), api.Array{}, api.ErrDomain},
		{ints(2, pair{0, 2}), vector(), api.OK},
		{ints(2, pair{}), vector(), api.OK},
		{ints(2, pair{3, 2}, 2, 1, 3, 4, -5, -6), vector(2, 4, -5), api.OK},
		{ints(2, pair{3, 1}, 2, -1, 3), vector(2, -1, 3), api.OK},
		{vector(-5), number(-5), api.OK},
		{vector(least), number(least), api.OK},
		{vector(least, least), number(least), api.OK},
		{vector(least, 0, greatest, 1), number(greatest), api.OK},
		{square(least, least, -1<<32, -3), vector(least, -3), api.OK},
		{full(-7), number(-7), api.OK},
		{long(400, least), full(least), api.OK},
		{ints(2, pair{400, 0}), api.Array{}, api.ErrDomain},
		{number(5), api.Array{}, api.ErrRank},
		{text(97, 98), api.Array{}, api.ErrKind},
		{text(), api.Array{}, api.ErrKind},
		{letter(97), api.Array{}, api.ErrKind},
		{ints(1, pair{2, 0}), api.Array{}, api.ErrForm},
	})
}

func TestCount(t *testing.T) {
	table(t, "Count", folds.Count, []row{
		{m, vector(3, 3), api.OK},
		{text(97, 98, 99), number(3), api.OK},
		{vector(), number(0), api.OK},
		{text(), number(0), api.OK},
		{vector(least, -1, 0, greatest), number(4), api.OK},
		{vector(7), number(1), api.OK},
		{full(7), number(400), api.OK},
		{long(400, 7), full(1), api.OK},
		{long(1, 7), vector(400), api.OK},
		{ints(2, pair{3, 1}, 1, 2, 3), vector(1, 1, 1), api.OK},
		{chars(2, pair{1, 2}, 97, 98), vector(2), api.OK},
		{chars(2, pair{3, 0}), vector(0, 0, 0), api.OK},
		{ints(2, pair{0, 3}), vector(), api.OK},
		{chars(2, pair{0, 3}), vector(), api.OK},
		{ints(2, pair{}), vector(), api.OK},
		{ints(2, pair{400, 0}), full(0), api.OK},
		{number(5), api.Array{}, api.ErrRank},
		{letter(97), api.Array{}, api.ErrRank},
		{chars(0, pair{}, 55296), api.Array{}, api.ErrRange},
		{chars(1, pair{2, 0}, 97, -1), api.Array{}, api.ErrRange},
		{api.Array{Rank: 1}, api.Array{}, api.ErrArg},
		{ints(1, pair{401, 0}, make([]int64, 401)...), api.Array{}, api.ErrCells},
	})
}
