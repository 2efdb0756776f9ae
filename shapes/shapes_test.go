package shapes_test

import (
	"math"
	"math/big"
	"slices"
	"strconv"
	"strings"
	"testing"

	"invigilator/api"
	"invigilator/shapes"
)

type lengths = [2]int

type shape struct {
	rank int
	lens lengths
}

var (
	scalar = shape{0, lengths{}}
	none   = lengths{}
)

// everyShape has all shapes that there are.
func everyShape() []shape {
	list := []shape{scalar}
	for n := range 401 {
		list = append(list, shape{1, lengths{n, 0}})
	}
	for a := range 401 {
		for b := range 401 {
			if a*b <= 400 {
				list = append(list, shape{2, lengths{a, b}})
			}
		}
	}
	return list
}

// someShapes has shapes with small lengths, and some with great ones.
func someShapes() []shape {
	return slices.DeleteFunc(everyShape(), func(s shape) bool {
		a, b := s.lens[0], s.lens[1]
		return max(a, b) > 7 && a*b != 400 && max(a, b) < 399
	})
}

// edges has numbers near the limits, and such whose sums or products do not fit into 64 bits.
var edges = []int{
	-1, 0, 1, 2, 3, 19, 20, 21, 100, 133, 134, 200, 201, 399, 400, 401, -2, -20, -400, -401,
	65536, 1 << 31, 1 << 32, 1 << 33, 1<<32 + 1, 1 << 62, math.MaxInt, math.MinInt, math.MinInt + 1,
}

// ranks has all ranks, and numbers that are none.
var ranks = []int{0, 1, 2, -1, 3, 4, 256, -2, 1 << 32, 1<<32 + 1, math.MaxInt, math.MinInt}

// eachPair does something with shapes near the limits, and with what is none.
func eachPair(do func(rank int, lens lengths)) {
	for _, rank := range ranks {
		for _, a := range edges {
			for _, b := range edges {
				do(rank, lengths{a, b})
			}
		}
	}
}

// badShapes has what is no shape, with what Check returns.
var badShapes = []struct {
	rank int
	lens lengths
	e    api.Errno
}{
	{-1, none, api.ErrRange},
	{3, none, api.ErrRange},
	{math.MinInt, none, api.ErrRange},
	{math.MaxInt, none, api.ErrRange},
	{1 << 32, none, api.ErrRange},
	{1, lengths{-1, 0}, api.ErrRange},
	{2, lengths{-1, 0}, api.ErrRange},
	{2, lengths{0, -1}, api.ErrRange},
	{2, lengths{-3, -4}, api.ErrRange},
	{2, lengths{-1, 3}, api.ErrRange},
	{1, lengths{math.MinInt, 0}, api.ErrRange},
	{2, lengths{5, math.MinInt}, api.ErrRange},
	// A number out of its range comes before all else.
	{3, lengths{401, 401}, api.ErrRange},
	{-1, lengths{-1, -1}, api.ErrRange},
	{1, lengths{-1, 1}, api.ErrRange},
	{1, lengths{-1, -1}, api.ErrRange},
	{2, lengths{401, -1}, api.ErrRange},
	{2, lengths{-1, 401}, api.ErrRange},

	{0, lengths{1, 0}, api.ErrForm},
	{0, lengths{0, 1}, api.ErrForm},
	{0, lengths{1, 1}, api.ErrForm},
	{1, lengths{5, 1}, api.ErrForm},
	{1, lengths{0, 1}, api.ErrForm},
	// A number beyond the rank is no length that there is, so it may be below 0.
	{0, lengths{-1, 0}, api.ErrForm},
	{0, lengths{0, -1}, api.ErrForm},
	{1, lengths{5, -1}, api.ErrForm},
	{1, lengths{0, math.MinInt}, api.ErrForm},
	// A number beyond the rank comes before too many cells.
	{0, lengths{401, 0}, api.ErrForm},
	{1, lengths{401, 1}, api.ErrForm},
	{1, lengths{1, 401}, api.ErrForm},

	{1, lengths{401, 0}, api.ErrCells},
	{1, lengths{math.MaxInt, 0}, api.ErrCells},
	{2, lengths{21, 20}, api.ErrCells},
	{2, lengths{20, 21}, api.ErrCells},
	{2, lengths{400, 2}, api.ErrCells},
	{2, lengths{2, 201}, api.ErrCells},
	{2, lengths{3, 134}, api.ErrCells},
	{2, lengths{401, 0}, api.ErrCells},
	{2, lengths{0, 401}, api.ErrCells},
	{2, lengths{401, 1}, api.ErrCells},
	{2, lengths{0, math.MaxInt}, api.ErrCells},
	// The product of these is 0, or small, in 64 bits.
	{2, lengths{1 << 32, 1 << 32}, api.ErrCells},
	{2, lengths{1 << 62, 4}, api.ErrCells},
	{2, lengths{math.MaxInt, math.MaxInt}, api.ErrCells},
	{2, lengths{1<<32 + 1, 1<<32 - 1}, api.ErrCells},
}

// What follows goes by the chapter's definitions.

// errorOf returns the first error of which a shape has the fault.
func errorOf(rank int, lens lengths) api.Errno {
	if !slices.Contains([]int{0, 1, 2}, rank) {
		return api.ErrRange
	}
	there, rest := lens[:rank], lens[rank:]
	cells := big.NewInt(1)
	for _, n := range there {
		cells.Mul(cells, big.NewInt(int64(n)))
	}
	switch {
	case slices.ContainsFunc(there, func(n int) bool { return n < 0 }):
		return api.ErrRange
	case slices.ContainsFunc(rest, func(n int) bool { return n != 0 }):
		return api.ErrForm
	case slices.ContainsFunc(there, func(n int) bool { return n > 400 }), cells.Cmp(big.NewInt(400)) > 0:
		return api.ErrCells
	}
	return api.OK
}

// indices returns the indices of all cells of a shape, row by row.
func indices(s shape) []lengths {
	var list []lengths
	switch s.rank {
	case 0:
		list = []lengths{{0, 0}}
	case 1:
		for i := range s.lens[0] {
			list = append(list, lengths{i, 0})
		}
	case 2:
		for i := range s.lens[0] {
			for j := range s.lens[1] {
				list = append(list, lengths{i, j})
			}
		}
	}
	return list
}

// P5.1: Check and Cells.

func TestCheckOfNoShapes(t *testing.T) {
	for _, x := range badShapes {
		if e := shapes.Check(x.rank, x.lens); e != x.e {
			t.Errorf("Check(%d, %v): %d, want %d", x.rank, x.lens, e, x.e)
		}
	}
	eachPair(func(rank int, lens lengths) {
		if e := shapes.Check(rank, lens); e != errorOf(rank, lens) {
			t.Errorf("Check(%d, %v): %d, want %d", rank, lens, e, errorOf(rank, lens))
		}
	})
}

func TestCheckOfShapes(t *testing.T) {
	for _, s := range everyShape() {
		if e := shapes.Check(s.rank, s.lens); e != api.OK {
			t.Errorf("Check of %v: %d", s, e)
		}
	}
	for _, s := range []shape{scalar, {1, lengths{0, 0}}, {1, lengths{400, 0}}, {2, lengths{0, 0}}, {2, lengths{400, 0}}, {2, lengths{0, 400}}, {2, lengths{400, 1}}, {2, lengths{1, 400}}, {2, lengths{20, 20}}, {2, lengths{3, 133}}} {
		if e := shapes.Check(s.rank, s.lens); e != api.OK {
			t.Errorf("Check of %v: %d", s, e)
		}
	}
}

func TestCells(t *testing.T) {
	for _, x := range []struct {
		s    shape
		want int
	}{
		{shape{2, lengths{3, 4}}, 12},
		{scalar, 1},
		{shape{2, lengths{0, 7}}, 0},
		{shape{2, lengths{7, 0}}, 0},
		{shape{2, lengths{0, 0}}, 0},
		{shape{1, lengths{0, 0}}, 0},
		{shape{1, lengths{1, 0}}, 1},
		{shape{1, lengths{5, 0}}, 5},
		{shape{1, lengths{400, 0}}, 400},
		{shape{2, lengths{20, 20}}, 400},
		{shape{2, lengths{1, 1}}, 1},
	} {
		if n, e := shapes.Cells(x.s.rank, x.s.lens); n != x.want || e != api.OK {
			t.Errorf("Cells of %v: %d, %d, want %d", x.s, n, e, x.want)
		}
	}
	for _, s := range everyShape() {
		if n, e := shapes.Cells(s.rank, s.lens); n != len(indices(s)) || e != api.OK {
			t.Errorf("Cells of %v: %d, %d", s, n, e)
		}
	}
}

// nothing fails a test if one of the functions returns another error, or more than zero values.
func nothing(t *testing.T, rank int, lens lengths, want api.Errno) {
	t.Helper()
	number := func(name string, n int, e api.Errno) {
		if n != 0 || e != want {
			t.Errorf("%s(%d, %v): %d, %d, want %d", name, rank, lens, n, e, want)
		}
	}
	pair := func(name string, l lengths, e api.Errno) {
		if l != none || e != want {
			t.Errorf("%s(%d, %v): %v, %d, want %d", name, rank, lens, l, e, want)
		}
	}
	n, e := shapes.Cells(rank, lens)
	number("Cells", n, e)
	for _, i := range []int{0, 1, -1, 400, math.MaxInt} {
		n, e = shapes.Place(rank, lens, lengths{i, 0})
		number("Place", n, e)
		n, e = shapes.Place(rank, lens, lengths{0, i})
		number("Place", n, e)
		index, e := shapes.Index(rank, lens, i)
		pair("Index", index, e)
	}
	many, size, e := shapes.Rows(rank, lens)
	number("Rows", many, e)
	number("Rows, size", size, e)
	flipped, e := shapes.Flip(rank, lens)
	pair("Flip", flipped, e)
	if text, e := shapes.Print(rank, lens); text != "" || e != want {
		t.Errorf("Print(%d, %v): %q, %d, want %d", rank, lens, text, e, want)
	}
}

// TestNoShapes shows that the error of Check comes before all others.
func TestNoShapes(t *testing.T) {
	for _, x := range badShapes {
		nothing(t, x.rank, x.lens, x.e)
	}
	eachPair(func(rank int, lens lengths) {
		if e := errorOf(rank, lens); e != api.OK {
			nothing(t, rank, lens, e)
		}
	})
}

// P5.3: Lens, Rows and Flip.

func TestLens(t *testing.T) {
	for _, x := range []struct {
		rank int
		list []int
		want lengths
		e    api.Errno
	}{
		{0, nil, none, api.OK},
		{0, []int{}, none, api.OK},
		{1, []int{5}, lengths{5, 0}, api.OK},
		{1, []int{0}, none, api.OK},
		{1, []int{400}, lengths{400, 0}, api.OK},
		{2, []int{3, 4}, lengths{3, 4}, api.OK},
		{2, []int{0, 7}, lengths{0, 7}, api.OK},
		{2, []int{20, 20}, lengths{20, 20}, api.OK},
		{-1, nil, none, api.ErrRange},
		{3, nil, none, api.ErrRange},
		{3, []int{1, 2, 3}, none, api.ErrRange},
		{-1, []int{401}, none, api.ErrRange},
		{math.MaxInt, []int{1}, none, api.ErrRange},
		{math.MinInt, []int{1}, none, api.ErrRange},
		{0, []int{0}, none, api.ErrForm},
		{0, []int{0, 0}, none, api.ErrForm},
		{1, nil, none, api.ErrForm},
		{1, []int{5, 0}, none, api.ErrForm},
		{2, []int{}, none, api.ErrForm},
		{2, []int{5}, none, api.ErrForm},
		{2, []int{1, 1, 1}, none, api.ErrForm},
		{2, make([]int, 5000), none, api.ErrForm},
		// How many they are comes before what they are.
		{0, []int{-1}, none, api.ErrForm},
		{1, []int{-1, 0}, none, api.ErrForm},
		{1, []int{401, 401}, none, api.ErrForm},
		{2, []int{-1}, none, api.ErrForm},
		{2, []int{401, 0, 0}, none, api.ErrForm},
		{1, []int{-1}, none, api.ErrRange},
		{2, []int{3, -1}, none, api.ErrRange},
		{2, []int{401, -1}, none, api.ErrRange},
		{1, []int{401}, none, api.ErrCells},
		{2, []int{21, 20}, none, api.ErrCells},
		{2, []int{0, 401}, none, api.ErrCells},
	} {
		if lens, e := shapes.Lens(x.rank, x.list); lens != x.want || e != x.e {
			t.Errorf("Lens(%d, %.20v): %v, %d, want %v, %d", x.rank, x.list, lens, e, x.want, x.e)
		}
	}
}

// TestLensOfAll compares Lens of the numbers of a shape with the shape, and Lens of two numbers with what they are for each rank.
func TestLensOfAll(t *testing.T) {
	for _, s := range everyShape() {
		list := slices.Clone(s.lens[:s.rank])
		if lens, e := shapes.Lens(s.rank, list); lens != s.lens || e != api.OK || !slices.Equal(list, s.lens[:s.rank]) {
			t.Errorf("Lens(%d, %v): %v, %d", s.rank, list, lens, e)
		}
	}
	eachPair(func(rank int, l lengths) {
		want, f := none, errorOf(rank, l)
		switch {
		case rank == 0 || rank == 1:
			f = api.ErrForm
		case f == api.OK:
			want = l
		}
		list := []int{l[0], l[1]}
		if lens, e := shapes.Lens(rank, list); lens != want || e != f || !slices.Equal(list, l[:]) {
			t.Errorf("Lens(%d, %v): %v, %d, want %v, %d", rank, l, lens, e, want, f)
		}
	})
}

func TestRows(t *testing.T) {
	for _, x := range []struct {
		s          shape
		many, size int
	}{
		{shape{2, lengths{3, 4}}, 3, 4},
		{shape{1, lengths{5, 0}}, 1, 5},
		{scalar, 1, 1},
		{shape{1, lengths{0, 0}}, 1, 0},
		{shape{1, lengths{400, 0}}, 1, 400},
		{shape{2, lengths{0, 0}}, 0, 0},
		{shape{2, lengths{0, 7}}, 0, 7},
		{shape{2, lengths{7, 0}}, 7, 0},
		{shape{2, lengths{1, 9}}, 1, 9},
		{shape{2, lengths{400, 1}}, 400, 1},
	} {
		if many, size, e := shapes.Rows(x.s.rank, x.s.lens); many != x.many || size != x.size || e != api.OK {
			t.Errorf("Rows of %v: %d, %d, %d, want %d, %d", x.s, many, size, e, x.many, x.size)
		}
	}
}

func TestFlip(t *testing.T) {
	for _, s := range everyShape() {
		lens, e := shapes.Flip(s.rank, s.lens)
		if s.rank < 2 {
			if lens != none || e != api.ErrForm {
				t.Errorf("Flip of %v: %v, %d", s, lens, e)
			}
			continue
		}
		if lens[0] != s.lens[1] || lens[1] != s.lens[0] || e != api.OK {
			t.Errorf("Flip of %v: %v, %d", s, lens, e)
		}
		if back, e := shapes.Flip(s.rank, lens); back != s.lens || e != api.OK {
			t.Errorf("Flip of Flip of %v: %v, %d", s, back, e)
		}
	}
	if lens, e := shapes.Flip(2, lengths{3, 4}); lens != (lengths{4, 3}) || e != api.OK {
		t.Errorf("Flip of 3 x 4: %v, %d", lens, e)
	}
}

// P5.4: Fits.

func TestFits(t *testing.T) {
	vector := func(n int) shape { return shape{1, lengths{n, 0}} }
	matrix := func(a, b int) shape { return shape{2, lengths{a, b}} }
	for _, x := range []struct {
		a, b, want shape
		e          api.Errno
	}{
		{matrix(3, 4), scalar, matrix(3, 4), api.OK},
		{scalar, matrix(3, 4), matrix(3, 4), api.OK},
		{scalar, vector(5), vector(5), api.OK},
		{vector(0), scalar, vector(0), api.OK},
		{scalar, matrix(0, 7), matrix(0, 7), api.OK},
		{scalar, scalar, scalar, api.OK},
		{vector(5), vector(5), vector(5), api.OK},
		{vector(0), vector(0), vector(0), api.OK},
		{matrix(3, 4), matrix(3, 4), matrix(3, 4), api.OK},
		{vector(5), vector(6), shape{}, api.ErrLength},
		{vector(0), vector(1), shape{}, api.ErrLength},
		{vector(1), vector(5), shape{}, api.ErrLength},
		{matrix(3, 4), matrix(4, 3), shape{}, api.ErrLength},
		{matrix(3, 4), matrix(3, 5), shape{}, api.ErrLength},
		{matrix(3, 4), matrix(2, 4), shape{}, api.ErrLength},
		{matrix(0, 7), matrix(0, 6), shape{}, api.ErrLength}, // though neither has a cell
		{vector(5), matrix(3, 4), shape{}, api.ErrForm},
		{matrix(5, 0), vector(5), shape{}, api.ErrForm},
		{vector(0), matrix(0, 0), shape{}, api.ErrForm},
		{matrix(1, 1), vector(1), shape{}, api.ErrForm},
		{vector(12), matrix(1, 12), shape{}, api.ErrForm},
	} {
		rank, lens, e := shapes.Fits(x.a.rank, x.a.lens, x.b.rank, x.b.lens)
		if rank != x.want.rank || lens != x.want.lens || e != x.e {
			t.Errorf("Fits of %v and %v: %d, %v, %d, want %v, %d", x.a, x.b, rank, lens, e, x.want, x.e)
		}
	}
}

func TestFitsOfAll(t *testing.T) {
	for _, a := range someShapes() {
		for _, b := range someShapes() {
			want, f := shape{}, api.OK
			switch {
			case a.rank == 0:
				want = b
			case b.rank == 0 || a == b:
				want = a
			case a.rank != b.rank:
				f = api.ErrForm
			default:
				f = api.ErrLength
			}
			if rank, lens, e := shapes.Fits(a.rank, a.lens, b.rank, b.lens); rank != want.rank || lens != want.lens || e != f {
				t.Errorf("Fits of %v and %v: %d, %v, %d, want %v, %d", a, b, rank, lens, e, want, f)
			}
		}
	}
}

func TestFitsOfNoShapes(t *testing.T) {
	nothingFits := func(ra int, la lengths, rb int, lb lengths, want api.Errno) {
		if rank, lens, e := shapes.Fits(ra, la, rb, lb); rank != 0 || lens != none || e != want {
			t.Errorf("Fits(%d, %v, %d, %v): %d, %v, %d, want %d", ra, la, rb, lb, rank, lens, e, want)
		}
	}
	for _, x := range badShapes {
		for _, s := range []shape{scalar, {1, lengths{5, 0}}, {1, lengths{0, 0}}, {2, lengths{3, 4}}, {2, lengths{400, 0}}} {
			nothingFits(x.rank, x.lens, s.rank, s.lens, x.e)
			nothingFits(s.rank, s.lens, x.rank, x.lens, x.e)
		}
		for _, y := range badShapes { // the first one comes first, also if both are the same
			nothingFits(x.rank, x.lens, y.rank, y.lens, x.e)
		}
	}
}

// P5.5: Print.

func TestPrint(t *testing.T) {
	for _, x := range []struct {
		s    shape
		want string
	}{
		{scalar, "scalar"},
		{shape{2, lengths{3, 4}}, "3x4"},
		{shape{1, lengths{5, 0}}, "5"},
		{shape{1, lengths{0, 0}}, "0"},
		{shape{1, lengths{1, 0}}, "1"},
		{shape{2, lengths{0, 0}}, "0x0"},
		{shape{2, lengths{400, 0}}, "400x0"},
		{shape{2, lengths{0, 400}}, "0x400"},
		{shape{2, lengths{10, 40}}, "10x40"},
		{shape{1, lengths{400, 0}}, "400"},
		{shape{2, lengths{1, 1}}, "1x1"},
	} {
		if text, e := shapes.Print(x.s.rank, x.s.lens); text != x.want || e != api.OK {
			t.Errorf("Print of %v: %q, %d, want %q", x.s, text, e, x.want)
		}
	}
	for _, s := range everyShape() {
		want := "scalar"
		if s.rank > 0 {
			want = strings.Join([]string{strconv.Itoa(s.lens[0]), strconv.Itoa(s.lens[1])}[:s.rank], "x")
		}
		if text, e := shapes.Print(s.rank, s.lens); text != want || e != api.OK {
			t.Errorf("Print of %v: %q, %d", s, text, e)
		}
	}
}

// P5.7: rows and cells, and what fits whatever the order.

func TestRowsTimesSize(t *testing.T) {
	for _, s := range everyShape() {
		many, size, e := shapes.Rows(s.rank, s.lens)
		if many*size != len(indices(s)) || e != api.OK {
			t.Errorf("Rows of %v: %d, %d, %d", s, many, size, e)
		}
	}
}

func TestFitsInBothOrders(t *testing.T) {
	for _, a := range someShapes() {
		for _, b := range someShapes() {
			rank, lens, e := shapes.Fits(a.rank, a.lens, b.rank, b.lens)
			other, others, f := shapes.Fits(b.rank, b.lens, a.rank, a.lens)
			if rank != other || lens != others || e != f {
				t.Errorf("Fits of %v and %v: %d, %v, %d; %d, %v, %d", a, b, rank, lens, e, other, others, f)
			}
		}
	}
	for _, s := range everyShape() {
		for _, with := range []shape{s, scalar} {
			rank, lens, e := shapes.Fits(s.rank, s.lens, with.rank, with.lens)
			if rank != s.rank || lens != s.lens || e != api.OK {
				t.Errorf("Fits of %v and %v: %d, %v, %d", s, with, rank, lens, e)
			}
		}
	}
}
