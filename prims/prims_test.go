package prims_test

import (
	"math"
	"slices"
	"strings"
	"testing"

	"invigilator/api"
	"invigilator/arrays"
	"invigilator/prims"
)

const (
	least    = math.MinInt64
	greatest = math.MaxInt64
)

type pair = [2]int

// ints and chars return arrays with these parts, whatever they are.
func ints(rank int, lens pair, cells ...int64) api.Array {
	return api.Array{Kind: api.KInt, Rank: rank, Lens: lens, Cells: cells}
}

func chars(rank int, lens pair, cells ...int64) api.Array {
	return api.Array{Kind: api.KChar, Rank: rank, Lens: lens, Cells: cells}
}

// number and vector return int arrays of rank 0 and 1, letter and text those of chars.
func number(n int64) api.Array        { return ints(0, pair{}, n) }
func letter(r int64) api.Array        { return chars(0, pair{}, r) }
func vector(cells ...int64) api.Array { return ints(1, pair{len(cells), 0}, cells...) }
func text(cells ...int64) api.Array   { return chars(1, pair{len(cells), 0}, cells...) }

// square returns the matrix of the rows a b and c d.
func square(a, b, c, d int64) api.Array { return ints(2, pair{2, 2}, a, b, c, d) }

func list(l ...api.Array) []api.Array { return l }

func equal(a, b api.Array) bool {
	return a.Kind == b.Kind && a.Rank == b.Rank && a.Lens == b.Lens && slices.Equal(a.Cells, b.Cells)
}

// bad has what is no array, with what arrays.Check returns.
var bad = []struct {
	a api.Array
	e api.Errno
}{
	{api.Array{}, api.ErrArg},
	{api.Array{Kind: 3, Rank: 1, Lens: pair{1, 0}, Cells: []int64{2}}, api.ErrArg},
	{api.Array{Kind: -1, Cells: []int64{2}}, api.ErrArg},
	{ints(3, pair{}, 5), api.ErrRange},
	{chars(-1, pair{}, 97), api.ErrRange},
	{ints(1, pair{-1, 0}), api.ErrRange},
	{ints(2, pair{3, -1}), api.ErrRange},
	{ints(0, pair{1, 0}, 5), api.ErrForm},
	{ints(1, pair{2, 2}, 5, 6), api.ErrForm},
	{ints(0, pair{}), api.ErrForm},
	{ints(1, pair{2, 0}, 5), api.ErrForm},
	{chars(2, pair{2, 2}, 97, 98, 99), api.ErrForm},
	{ints(1, pair{401, 0}, make([]int64, 401)...), api.ErrCells},
	{chars(2, pair{0, 401}), api.ErrCells},
	{chars(0, pair{}, 55296), api.ErrRange},
	{chars(1, pair{2, 0}, 97, -1), api.ErrRange},
}

// P12.1: Find, Name, Arity.

func TestNumbers(t *testing.T) {
	names, numbers := chapter()
	if len(names) != 40 || len(numbers) != 40 || api.MaxPrim != 40 {
		t.Fatalf("%d names, %d numbers up to %d", len(names), len(numbers), api.MaxPrim)
	}
	for place, name := range names {
		p := place + 1
		if numbers[place] != p {
			t.Errorf("the constant of %s is %d, not %d", name, numbers[place], p)
		}
		if got, e := prims.Name(p); got != name || e != api.OK {
			t.Errorf("Name of %d: %q, %d, want %q", p, got, e, name)
		}
		if got, e := prims.Find(name); got != p || e != api.OK {
			t.Errorf("Find of %s: %d, %d, want %d", name, got, e, p)
		}
		want := 1
		if place >= 14 {
			want = 2
		}
		if got, e := prims.Arity(p); got != want || e != api.OK {
			t.Errorf("Arity of %s: %d, %d, want %d", name, got, e, want)
		}
	}
}

func TestFindExamples(t *testing.T) {
	for _, x := range []struct {
		name string
		p    int
		e    api.Errno
	}{
		{"add", 15, api.OK},
		{"plus", 20, api.OK},
		{"sums", 0, api.ErrNone},
		{"neg", 1, api.OK},
		{"grade", 14, api.OK},
		{"pick", 40, api.OK},
		{"", 0, api.ErrNone},
		{" ", 0, api.ErrNone},
		{"Add", 0, api.ErrNone},
		{"ADD", 0, api.ErrNone},
		{"PrAdd", 0, api.ErrNone},
		{" add", 0, api.ErrNone},
		{"add ", 0, api.ErrNone},
		{"add\x00", 0, api.ErrNone},
		{"add sub", 0, api.ErrNone},
		{"ad", 0, api.ErrNone},
		{"15", 0, api.ErrNone},
		{"+", 0, api.ErrNone},
		{"ädd", 0, api.ErrNone},
		{"a\xffd", 0, api.ErrNone},
		{strings.Repeat("add", 10000), 0, api.ErrNone},
	} {
		if p, e := prims.Find(x.name); p != x.p || e != x.e {
			t.Errorf("Find of %.20q: %d, %d, want %d, %d", x.name, p, e, x.p, x.e)
		}
	}
}

// TestFindOthers asks for strings that are nearly names.
func TestFindOthers(t *testing.T) {
	names, _ := chapter()
	ask := func(s string) {
		want, none := slices.Index(names, s)+1, api.OK
		if want == 0 {
			none = api.ErrNone
		}
		if p, e := prims.Find(s); p != want || e != none {
			t.Errorf("Find of %q: %d, %d, want %d, %d", s, p, e, want, none)
		}
	}
	for _, name := range names {
		for at := range name {
			ask(name[:at])
			ask(name[at:])
			ask(name[:at] + name[at+1:])
			for r := 'a'; r <= 'z'; r++ {
				ask(name[:at] + string(r) + name[at+1:])
				ask(name[:at] + string(r) + name[at:])
			}
		}
		ask(strings.ToUpper(name))
		ask(strings.ToUpper(name[:1]) + name[1:])
		for _, other := range names {
			ask(name + other)
		}
	}
}

func TestNoPrimitive(t *testing.T) {
	for _, p := range strange() {
		if name, e := prims.Name(p); name != "" || e != api.ErrArg {
			t.Errorf("Name of %d: %q, %d", p, name, e)
		}
		if n, e := prims.Arity(p); n != 0 || e != api.ErrArg {
			t.Errorf("Arity of %d: %d, %d", p, n, e)
		}
		if l, e := prims.Errors(p); len(l) != 0 || e != api.ErrArg {
			t.Errorf("Errors of %d: %v, %d", p, l, e)
		}
		for n := range 4 {
			// That there is no primitive comes before all that may be wrong beside it.
			for _, x := range [][]int{slices.Repeat([]int{1}, n), slices.Repeat([]int{7}, n)} {
				if kind, rank, e := prims.Fits(p, x, x); kind != 0 || rank != 0 || e != api.ErrArg {
					t.Errorf("Fits of %d, %v: %d, %d, %d", p, x, kind, rank, e)
				}
			}
			for _, a := range list(number(1), vector(1, 2), letter(97), api.Array{}) {
				if b, e := prims.Do(p, slices.Repeat(list(a), n)); !equal(b, api.Array{}) || e != api.ErrArg {
					t.Errorf("Do of %d, %v %d times: %v, %d", p, a, n, b, e)
				}
			}
		}
	}
}

// P12.2: Fits.

// each calls do with all lists of so many of these numbers.
func each(many int, numbers []int, do func(l []int)) {
	if many == 0 {
		do(nil)
		return
	}
	each(many-1, numbers, func(l []int) {
		for _, n := range numbers {
			do(append(slices.Clone(l), n))
		}
	})
}

// TestFits asks for all kinds and ranks, and for numbers that are none.
func TestFits(t *testing.T) {
	for p := 1; p <= api.MaxPrim; p++ {
		all, fitted := fitsOf(p), 0
		each(arityOf(p), []int{math.MinInt, -1, 0, api.KInt, api.KChar, 3, math.MaxInt}, func(kinds []int) {
			each(arityOf(p), []int{math.MinInt, -1, 0, 1, 2, 3, math.MaxInt}, func(ranks []int) {
				want, f := all.of(kinds, ranks)
				kind, rank, e := prims.Fits(p, kinds, ranks)
				if kind != want.kind || rank != want.rank || e != f {
					t.Errorf("Fits of %s, %v, %v: %d, %d, %d, want %v, %d", nameOf(p), kinds, ranks, kind, rank, e, want, f)
				}
				if e == api.OK {
					fitted++
				}
			})
		})
		if fitted != len(all) || fitted == 0 {
			t.Errorf("%s fits %d operands, but the chapter says %d", nameOf(p), fitted, len(all))
		}
	}
}

// TestFitsArity asks for lists that are too short or too long, alone and together, with good and bad numbers in them.
func TestFitsArity(t *testing.T) {
	for p := 1; p <= api.MaxPrim; p++ {
		for m := range 4 {
			for n := range 4 {
				if m == arityOf(p) && n == arityOf(p) {
					continue
				}
				for _, x := range []int{1, 0, 9, -1} {
					kinds, ranks := slices.Repeat([]int{x}, m), slices.Repeat([]int{x}, n)
					if kind, rank, e := prims.Fits(p, kinds, ranks); kind != 0 || rank != 0 || e != api.ErrArity {
						t.Errorf("Fits of %s, %v, %v: %d, %d, %d", nameOf(p), kinds, ranks, kind, rank, e)
					}
				}
			}
		}
		if _, _, e := prims.Fits(p, nil, []int{}); e != api.ErrArity {
			t.Errorf("Fits of %s and nothing: %d", nameOf(p), e)
		}
	}
}

func TestFitsExamples(t *testing.T) {
	for _, x := range []struct {
		p            int
		kinds, ranks []int
		kind, rank   int
		e            api.Errno
	}{
		{api.PrCat, []int{c, c}, []int{1, 1}, c, 1, api.OK},
		{api.PrCat, []int{c, i}, []int{1, 1}, 0, 0, api.ErrKind},
		{api.PrCat, []int{c, c}, []int{1, 2}, 0, 0, api.ErrRank},
		{api.PrCat, []int{c, i}, []int{1, 2}, 0, 0, api.ErrKind},
		{api.PrCat, []int{i, i}, []int{0, 0}, 0, 0, api.ErrRank},
		{api.PrCat, []int{3, 3}, []int{1, 1}, 0, 0, api.ErrKind},
		{api.PrAt, []int{c, i}, []int{1, 0}, c, 0, api.OK},
		{api.PrAt, []int{c, i}, []int{1, 1}, c, 1, api.OK},
		{api.PrAt, []int{c, c}, []int{1, 1}, 0, 0, api.ErrKind},
		{api.PrAt, []int{i, i}, []int{1, 2}, 0, 0, api.ErrRank},
		{api.PrAdd, []int{i, i}, []int{0, 2}, i, 2, api.OK},
		{api.PrAdd, []int{i, i}, []int{2, 0}, i, 2, api.OK},
		{api.PrAdd, []int{i, i}, []int{1, 2}, 0, 0, api.ErrRank},
		{api.PrAdd, []int{c, c}, []int{1, 1}, 0, 0, api.ErrKind},
		{api.PrEq, []int{c, c}, []int{1, 0}, i, 1, api.OK},
		{api.PrEq, []int{c, i}, []int{0, 0}, 0, 0, api.ErrKind},
		{api.PrEq, []int{0, 0}, []int{3, 3}, 0, 0, api.ErrKind},
		{api.PrEq, []int{c, c}, []int{3, 3}, 0, 0, api.ErrRank},
		{api.PrShape, []int{c}, []int{0}, i, 1, api.OK},
		{api.PrShape, []int{c}, []int{-1}, 0, 0, api.ErrRank},
		{api.PrShape, []int{0}, []int{0}, 0, 0, api.ErrKind},
		{api.PrCount, []int{c}, []int{2}, i, 1, api.OK},
		{api.PrCount, []int{c}, []int{0}, 0, 0, api.ErrRank},
		{api.PrIn, []int{c, c}, []int{2, 1}, i, 2, api.OK},
		{api.PrGrid, []int{i, c}, []int{1, 1}, c, 2, api.OK},
	} {
		kind, rank, e := prims.Fits(x.p, x.kinds, x.ranks)
		if kind != x.kind || rank != x.rank || e != x.e {
			t.Errorf("Fits of %s, %v, %v: %d, %d, %d, want %d, %d, %d", nameOf(x.p), x.kinds, x.ranks, kind, rank, e, x.kind, x.rank, x.e)
		}
	}
}

// P12.3: Do.

// TestDo has a result of each primitive that no other one has of the same operands.
func TestDo(t *testing.T) {
	m := square(3, 1, -4, 1)
	v, w := vector(7, -7, 0), vector(2, 2, 5)
	for _, x := range []struct {
		p    int
		l    []api.Array
		want api.Array
	}{
		{api.PrNeg, list(v), vector(-7, 7, 0)},
		{api.PrAbs, list(v), vector(7, 7, 0)},
		{api.PrNot, list(v), vector(0, 0, 1)},
		{api.PrShape, list(m), vector(2, 2)},
		{api.PrRavel, list(m), vector(3, 1, -4, 1)},
		{api.PrReverse, list(m), square(1, 3, 1, -4)},
		{api.PrFlip, list(m), square(3, -4, 1, 1)},
		{api.PrIota, list(number(3)), vector(0, 1, 2)},
		{api.PrSum, list(m), vector(4, -3)},
		{api.PrLeast, list(m), vector(1, -4)},
		{api.PrMost, list(m), vector(3, 1)},
		{api.PrCount, list(m), vector(2, 2)},
		{api.PrCount, list(text(97, 98, 99)), number(3)},
		{api.PrScan, list(m), square(3, 4, -4, -3)},
		{api.PrGrade, list(v), vector(1, 2, 0)},
		{api.PrAdd, list(vector(1, 2), vector(3, 4)), vector(4, 6)},
		{api.PrAdd, list(v, number(1)), vector(8, -6, 1)},
		{api.PrSub, list(v, w), vector(5, -9, -5)},
		{api.PrMul, list(v, w), vector(14, -14, 0)},
		{api.PrDiv, list(v, w), vector(3, -4, 0)},
		{api.PrMod, list(v, w), vector(1, 1, 0)},
		{api.PrPlus, list(v, number(greatest)), vector(greatest, greatest-7, greatest)},
		{api.PrMinus, list(v, number(least)), vector(greatest, greatest-6, greatest)},
		{api.PrTimes, list(v, number(1<<62)), vector(greatest, least, 0)},
		{api.PrEq, list(w, vector(2, 3, 4)), vector(1, 0, 0)},
		{api.PrEq, list(text(97, 98), letter(97)), vector(1, 0)},
		{api.PrNe, list(w, vector(2, 3, 4)), vector(0, 1, 1)},
		{api.PrNe, list(letter(97), text(97, 98)), vector(0, 1)},
		{api.PrLt, list(w, vector(2, 3, 4)), vector(0, 1, 0)},
		{api.PrLe, list(w, vector(2, 3, 4)), vector(1, 1, 0)},
		{api.PrGt, list(w, vector(2, 3, 4)), vector(0, 0, 1)},
		{api.PrGe, list(w, vector(2, 3, 4)), vector(1, 0, 1)},
		{api.PrAnd, list(v, number(5)), vector(1, 1, 0)},
		{api.PrAnd, list(v, number(0)), vector(0, 0, 0)},
		{api.PrOr, list(v, number(0)), vector(1, 1, 0)},
		{api.PrOr, list(v, number(5)), vector(1, 1, 1)},
		{api.PrMin, list(v, w), vector(2, -7, 0)},
		{api.PrMax, list(v, w), vector(7, 2, 5)},
		{api.PrTake, list(number(2), text(97, 98, 99)), text(97, 98)},
		{api.PrDrop, list(number(2), text(97, 98, 99)), text(99)},
		{api.PrFill, list(number(2), letter(120)), text(120, 120)},
		{api.PrGrid, list(vector(2, 2), vector(1, 2, 3)), square(1, 2, 3, 1)},
		{api.PrCat, list(v, w), vector(7, -7, 0, 2, 2, 5)},
		{api.PrCat, list(text(97), text(98)), text(97, 98)},
		{api.PrAt, list(text(97, 98, 99), vector(2, 0)), text(99, 97)},
		{api.PrAt, list(text(97, 98, 99), number(1)), letter(98)},
		{api.PrIn, list(vector(5, 3, 5, 1), vector(5, 9)), vector(1, 0, 1, 0)},
		{api.PrPick, list(vector(1, 0, 7, 0), vector(5, 3, 5, 1)), vector(5, 5)},
	} {
		if a, e := prims.Do(x.p, x.l); !equal(a, x.want) || e != api.OK {
			t.Errorf("Do of %s, %v: %v, %d, want %v", nameOf(x.p), x.l, a, e, x.want)
		}
	}
}

// TestDoArity asks for lists of other lengths; what is in them is not looked at.
func TestDoArity(t *testing.T) {
	ask := func(p int, l []api.Array) {
		if a, e := prims.Do(p, l); !equal(a, api.Array{}) || e != api.ErrArity {
			t.Errorf("Do of %s, %v: %v, %d", nameOf(p), l, a, e)
		}
	}
	for p := 1; p <= api.MaxPrim; p++ {
		ask(p, nil)
		for n := range 5 {
			if n == arityOf(p) {
				continue
			}
			for _, a := range list(vector(1, 2), number(1), text(97), api.Array{}, ints(1, pair{2, 0}, 5)) {
				ask(p, slices.Repeat(list(a), n))
			}
		}
	}
	ask(api.PrAdd, list(vector(1, 2)))
}

// TestDoBad has operands that are no arrays: the first of them says which error it is, even beside operands that do not fit.
func TestDoBad(t *testing.T) {
	ask := func(p int, e api.Errno, l ...api.Array) {
		if a, f := prims.Do(p, l); !equal(a, api.Array{}) || f != e {
			t.Errorf("Do of %s, %v: %v, %d, want %d", nameOf(p), l, a, f, e)
		}
	}
	for p := 1; p <= api.MaxPrim; p++ {
		for _, x := range bad {
			if e := arrays.Check(x.a); e != x.e {
				t.Fatalf("Check of %v: %d, want %d", x.a, e, x.e)
			}
			if arityOf(p) == 1 {
				ask(p, x.e, x.a)
				continue
			}
			for _, a := range list(number(1), vector(1, 2), letter(97), text(97), square(1, 2, 3, 4)) {
				ask(p, x.e, x.a, a)
				ask(p, x.e, a, x.a)
			}
			for _, y := range bad {
				ask(p, x.e, x.a, y.a)
			}
		}
	}
}

// P12.4: Errors.

func TestErrors(t *testing.T) {
	for p := 1; p <= api.MaxPrim; p++ {
		l, e := prims.Errors(p)
		if e != api.OK || !slices.Equal(l, errorsOf(p)) {
			t.Errorf("Errors of %s: %v, %d, want %v", nameOf(p), l, e, errorsOf(p))
		}
		if !slices.IsSorted(l) || len(slices.Compact(slices.Clone(l))) != len(l) {
			t.Errorf("Errors of %s do not ascend: %v", nameOf(p), l)
		}
	}
	if l, _ := prims.Errors(api.PrGrid); !slices.Equal(l, []api.Errno{11, 13, 15}) {
		t.Errorf("Errors of grid: %v", l)
	}
}
