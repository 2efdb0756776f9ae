package finds_test

import (
	"math"
	"slices"
	"testing"

	"invigilator/api"
	"invigilator/arrays"
	"invigilator/finds"
	"invigilator/moves"
	"invigilator/shapes"
)

type pair = [2]int

// ints and chars return arrays with these parts, whatever they are.
func ints(rank int, lens pair, cells ...int64) api.Array {
	return api.Array{Kind: api.KInt, Rank: rank, Lens: lens, Cells: cells}
}

func chars(rank int, lens pair, cells ...int64) api.Array {
	return api.Array{Kind: api.KChar, Rank: rank, Lens: lens, Cells: cells}
}

// number and vector return int arrays of rank 0 and 1, letter and text those of chars.
func number(n int64) api.Array        { return ints(0, pair{}, n) }
func letter(r int64) api.Array        { return chars(0, pair{}, r) }
func vector(cells ...int64) api.Array { return ints(1, pair{len(cells), 0}, cells...) }
func text(cells ...int64) api.Array   { return chars(1, pair{len(cells), 0}, cells...) }

// counted returns the vector of so many numbers from 0 on.
func counted(many int) api.Array {
	a := vector()
	for i := range many {
		a.Lens[0]++
		a.Cells = append(a.Cells, int64(i))
	}
	return a
}

// v is that of the chapter's examples; m is a matrix.
var (
	v = vector(5, 3, 5, 1)
	m = ints(2, pair{2, 3}, 1, 2, 3, 4, 5, 6)
)

func equal(a, b api.Array) bool {
	return a.Kind == b.Kind && a.Rank == b.Rank && a.Lens == b.Lens && slices.Equal(a.Cells, b.Cells)
}

// is fails the test if an array is not the wanted one, or nothing beside an error.
func is(t *testing.T, name string, a api.Array, e api.Errno, want api.Array, f api.Errno) {
	t.Helper()
	if f != api.OK {
		want = api.Array{}
	}
	if e != f || !equal(a, want) {
		t.Errorf("%s: %v, %d, want %v, %d", name, a, e, want, f)
	}
}

// must returns an array that has no error beside it.
func must(t *testing.T) func(a api.Array, e api.Errno) api.Array {
	return func(a api.Array, e api.Errno) api.Array {
		t.Helper()
		if e != api.OK {
			t.Fatalf("error %d", e)
		}
		return a
	}
}

// someShapes has shapes of all ranks, with few, many and no cells.
var someShapes = []struct {
	rank int
	lens pair
}{
	{0, pair{}},
	{1, pair{0, 0}}, {1, pair{1, 0}}, {1, pair{2, 0}}, {1, pair{3, 0}}, {1, pair{4, 0}}, {1, pair{5, 0}}, {1, pair{199, 0}}, {1, pair{399, 0}}, {1, pair{400, 0}},
	{2, pair{0, 0}}, {2, pair{0, 1}}, {2, pair{0, 7}}, {2, pair{7, 0}}, {2, pair{1, 0}},
	{2, pair{1, 1}}, {2, pair{1, 3}}, {2, pair{3, 1}}, {2, pair{2, 3}}, {2, pair{3, 2}},
	{2, pair{20, 20}}, {2, pair{400, 0}}, {2, pair{400, 1}}, {2, pair{1, 400}}, {2, pair{0, 400}},
}

// someInts and someRunes have the cells of arrays: both ends, numbers that are equal, or in another order, in fewer bits, and some that come again.
var (
	someInts  = []int64{3, math.MaxInt64, math.MinInt64, 1<<32 + 3, -1, 3, 0, -1 << 32, 1, math.MaxInt64}
	someRunes = []int64{65, 0x10FFFF, 0, 0xE000, 66, 65, 0xD7FF, 1}
)

// someArrays has arrays of both kinds with these shapes, whose cells are again and again the same, and int arrays whose cells differ.
func someArrays() []api.Array {
	var list []api.Array
	for i, s := range someShapes {
		n, _ := shapes.Cells(s.rank, s.lens)
		var numbers, letters, others []int64
		for place := i; place < i+n; place++ {
			numbers = append(numbers, someInts[place%len(someInts)])
			letters = append(letters, someRunes[place%len(someRunes)])
			others = append(others, int64(place*7%401-200))
		}
		list = append(list, ints(s.rank, s.lens, numbers...), chars(s.rank, s.lens, letters...), ints(s.rank, s.lens, others...))
	}
	return list
}

// someVectors has those of a list that are vectors.
func someVectors() []api.Array {
	return slices.DeleteFunc(someArrays(), func(a api.Array) bool { return a.Rank != 1 })
}

// farInts has numbers at the ends of 64 bits, and some that are 0, or a place, in fewer.
var farInts = []int64{math.MinInt64, math.MinInt64 + 1, math.MinInt64 + 3, -1 << 32, -1<<32 + 2, 1 << 32, 1<<32 + 2, 1 << 62, math.MaxInt64 - 1, math.MaxInt64}

// badArrays has what is no array, with what arrays.Check returns.
var badArrays = []struct {
	a api.Array
	e api.Errno
}{
	{api.Array{}, api.ErrArg},
	{api.Array{Kind: 3, Cells: []int64{2}}, api.ErrArg},
	{api.Array{Kind: -1, Rank: 1, Lens: pair{2, 0}, Cells: []int64{1, 2}}, api.ErrArg},
	{api.Array{Kind: math.MaxInt, Rank: 2, Lens: pair{1, 1}, Cells: []int64{1}}, api.ErrArg},
	{ints(3, pair{}, 5), api.ErrRange},
	{chars(-1, pair{}, 65), api.ErrRange},
	{ints(math.MinInt, pair{}), api.ErrRange},
	{ints(1, pair{-1, 0}), api.ErrRange},
	{ints(2, pair{3, -1}), api.ErrRange},
	{ints(0, pair{1, 0}, 5), api.ErrForm},
	{chars(1, pair{1, 1}, 65), api.ErrForm},
	{ints(0, pair{}), api.ErrForm},
	{ints(0, pair{}, 5, 6), api.ErrForm},
	{ints(1, pair{2, 0}, 5), api.ErrForm},
	{ints(1, pair{2, 0}, 5, 6, 7), api.ErrForm},
	{chars(2, pair{2, 2}, 65, 66, 67), api.ErrForm},
	{ints(2, pair{0, 7}, 1), api.ErrForm},
	{ints(2, pair{math.MaxInt, math.MaxInt}), api.ErrCells},
	{ints(1, pair{401, 0}, make([]int64, 401)...), api.ErrCells},
	{chars(2, pair{0, 401}), api.ErrCells},
	{chars(0, pair{}, 55296), api.ErrRange},
	{chars(1, pair{2, 0}, 65, -1), api.ErrRange},
	{chars(2, pair{1, 2}, 65, 1114112), api.ErrRange},
}

// all has arrays of both kinds and all ranks, what is none, scalars of many numbers, and vectors and matrices of small ones.
func all() []api.Array {
	list := someArrays()
	for _, x := range badArrays {
		list = append(list, x.a)
	}
	for _, n := range append([]int64{-401, -400, -2, -1, 0, 1, 2, 3, 4, 5, 198, 199, 398, 399, 400, 401}, farInts...) {
		list = append(list, number(n))
	}
	for _, l := range [][]int64{{0, 0}, {1, 0, 1}, {0, 1, 2, 3}, {0, 0, 0, 0}, {3, 2, 1, 0}, {0, -1}, {-1, 0, 1, 2, 3}, {0, 1, 2, 400}, {398, 5}, {399}, {2, 1 << 32}} {
		list = append(list, vector(l...))
	}
	masks := counted(400)
	for i := range masks.Cells {
		masks.Cells[i] = int64(i%3) - 1
	}
	list = append(list, masks, counted(199), counted(400), ints(2, pair{1, 2}, 1, 0), ints(2, pair{2, 2}, 0, 1, 1, 0))
	return append(list, letter(0), letter(2), text(2, 2), text(1, 0, 3, 2), text(1, 2, 3, 1))
}

// prim is a primitive: what it does; how many operands it has; which of them must have ints (-1: none), or whether all must be of one kind; the ranks that they may have; and its result by the table, for operands that are as these say.
type prim struct {
	name  string
	many  int
	do    func(l []api.Array) (api.Array, api.Errno)
	ints  int
	alike bool
	ranks [][]int
	want  func(l []api.Array) (api.Array, api.Errno)
}

func one(f func(a api.Array) (api.Array, api.Errno)) func(l []api.Array) (api.Array, api.Errno) {
	return func(l []api.Array) (api.Array, api.Errno) { return f(l[0]) }
}

func two(f func(a, b api.Array) (api.Array, api.Errno)) func(l []api.Array) (api.Array, api.Errno) {
	return func(l []api.Array) (api.Array, api.Errno) { return f(l[0], l[1]) }
}

func prims() []prim {
	return []prim{
		{"Shape", 1, one(finds.Shape), -1, false, [][]int{{0}, {1}, {2}}, one(lengths)},
		{"Iota", 1, one(finds.Iota), 0, false, [][]int{{0}}, one(numbers)},
		{"At", 2, two(finds.At), 1, false, [][]int{{1, 0}, {1, 1}}, two(looked)},
		{"In", 2, two(finds.In), -1, true, [][]int{{0, 1}, {1, 1}, {2, 1}}, two(marked)},
		{"Pick", 2, two(finds.Pick), 0, false, [][]int{{1, 1}}, two(picked)},
		{"Grade", 1, one(finds.Grade), 0, false, [][]int{{1}}, one(graded)},
	}
}

// expected returns what the promises say of a primitive: the errors that all have, in their order, and then what the table says.
func expected(p prim, l []api.Array) (api.Array, api.Errno) {
	var ranks []int
	for _, a := range l {
		if e := arrays.Check(a); e != api.OK {
			return api.Array{}, e
		}
		ranks = append(ranks, a.Rank)
	}
	if p.ints >= 0 && l[p.ints].Kind != api.KInt || p.alike && l[0].Kind != l[1].Kind {
		return api.Array{}, api.ErrKind
	}
	if !slices.ContainsFunc(p.ranks, func(fits []int) bool { return slices.Equal(fits, ranks) }) {
		return api.Array{}, api.ErrRank
	}
	return p.want(l)
}

// ask compares a primitive with what is expected. Its result must be an array, and its arguments must stay.
func ask(t *testing.T, p prim, l ...api.Array) {
	t.Helper()
	want, f := expected(p, l)
	before := deep(l)
	a, e := p.do(l)
	if e != f || f == api.OK && !equal(a, want) || f != api.OK && !equal(a, api.Array{}) {
		t.Errorf("%s of %v: %v, %d, want %v, %d", p.name, l, a, e, want, f)
	}
	if e == api.OK && arrays.Check(a) != api.OK {
		t.Errorf("%s of %v is no array: %v", p.name, l, a)
	}
	if !slices.EqualFunc(l, before, equal) {
		t.Errorf("%s has changed its arguments: %v, were %v", p.name, l, before)
	}
}

func deep(l []api.Array) []api.Array {
	var list []api.Array
	for _, a := range l {
		a.Cells = slices.Clone(a.Cells)
		list = append(list, a)
	}
	return list
}

// each does something with all operands of a primitive.
func each(p prim, do func(l ...api.Array)) {
	for _, a := range all() {
		if p.many == 1 {
			do(a)
			continue
		}
		for _, b := range all() {
			do(a, b)
		}
	}
}

// P8.1 to P8.3, for all operands; the errors that all primitives have; P8.7: results are arrays, and arguments are not modified.

func TestAll(t *testing.T) {
	for _, p := range prims() {
		each(p, func(l ...api.Array) { ask(t, p, l...) })
	}
}

func TestNoArrays(t *testing.T) {
	for _, x := range badArrays {
		if e := arrays.Check(x.a); e != x.e {
			t.Fatalf("Check of %v: %d", x.a, e)
		}
		for _, p := range prims() {
			// Operands that fit, that have another kind or rank, and that are no arrays either.
			for _, b := range []api.Array{v, m, number(2), letter(65), text(65), chars(2, pair{1, 1}, 65)} {
				a, e := p.do([]api.Array{x.a, b})
				is(t, p.name+" of no array", a, e, api.Array{}, x.e)
				if p.many == 2 {
					a, e = p.do([]api.Array{b, x.a})
					is(t, p.name+" of no second array", a, e, api.Array{}, x.e)
				}
			}
			for _, y := range badArrays {
				a, e := p.do([]api.Array{x.a, y.a})
				is(t, p.name+" of no arrays", a, e, api.Array{}, x.e)
			}
		}
	}
}

func TestKindsAndRanks(t *testing.T) {
	for _, x := range []struct {
		name string
		do   func(a, b api.Array) (api.Array, api.Errno)
		a, b api.Array
		want api.Errno
	}{
		{"At", finds.At, number(5), number(0), api.ErrRank},
		{"At", finds.At, letter(65), vector(0), api.ErrRank},
		{"At", finds.At, m, number(0), api.ErrRank},
		{"At", finds.At, v, ints(2, pair{1, 1}, 0), api.ErrRank},
		{"At", finds.At, v, ints(2, pair{0, 0}), api.ErrRank},
		{"At", finds.At, v, letter(0), api.ErrKind},
		{"At", finds.At, v, text(0), api.ErrKind},
		{"At", finds.At, v, text(), api.ErrKind},
		{"At", finds.At, text(65), letter(0), api.ErrKind},
		{"At", finds.At, number(5), letter(0), api.ErrKind}, // the kind comes before the ranks
		{"At", finds.At, v, chars(2, pair{1, 1}, 0), api.ErrKind},
		{"At", finds.At, number(5), number(9), api.ErrRank}, // the ranks come before the places
		{"At", finds.At, v, ints(2, pair{1, 1}, 9), api.ErrRank},
		{"In", finds.In, v, text(5), api.ErrKind},
		{"In", finds.In, text(5), v, api.ErrKind},
		{"In", finds.In, letter(5), v, api.ErrKind},
		{"In", finds.In, m, text(5), api.ErrKind},
		{"In", finds.In, vector(), text(), api.ErrKind},
		{"In", finds.In, v, letter(5), api.ErrKind},
		{"In", finds.In, v, chars(2, pair{1, 1}, 5), api.ErrKind},
		{"In", finds.In, v, number(5), api.ErrRank},
		{"In", finds.In, number(5), number(5), api.ErrRank},
		{"In", finds.In, v, m, api.ErrRank},
		{"In", finds.In, m, m, api.ErrRank},
		{"In", finds.In, letter(5), letter(5), api.ErrRank},
		{"Pick", finds.Pick, text(1, 0, 1, 0), v, api.ErrKind},
		{"Pick", finds.Pick, text(), text(), api.ErrKind},
		{"Pick", finds.Pick, letter(1), m, api.ErrKind},
		{"Pick", finds.Pick, number(1), v, api.ErrRank},
		{"Pick", finds.Pick, v, number(1), api.ErrRank},
		{"Pick", finds.Pick, number(1), number(1), api.ErrRank},
		{"Pick", finds.Pick, v, m, api.ErrRank}, // the ranks come before how many cells there are
		{"Pick", finds.Pick, m, m, api.ErrRank},
		{"Pick", finds.Pick, m, v, api.ErrRank},
		{"Pick", finds.Pick, vector(1), letter(65), api.ErrRank},
	} {
		a, e := x.do(x.a, x.b)
		is(t, x.name, a, e, api.Array{}, x.want)
	}
	for _, x := range []struct {
		a           api.Array
		iota, grade api.Errno
	}{
		{number(3), api.OK, api.ErrRank},
		{number(-1), api.ErrDomain, api.ErrRank},
		{vector(3), api.ErrRank, api.OK},
		{vector(-1), api.ErrRank, api.OK},
		{vector(401), api.ErrRank, api.OK},
		{vector(), api.ErrRank, api.OK},
		{m, api.ErrRank, api.ErrRank},
		{ints(2, pair{1, 1}, 3), api.ErrRank, api.ErrRank},
		{letter(3), api.ErrKind, api.ErrKind},
		{text(3), api.ErrKind, api.ErrKind},
		{text(), api.ErrKind, api.ErrKind},
		{chars(2, pair{1, 1}, 3), api.ErrKind, api.ErrKind},
	} {
		if _, e := finds.Iota(x.a); e != x.iota {
			t.Errorf("Iota of %v: %d, want %d", x.a, e, x.iota)
		}
		if _, e := finds.Grade(x.a); e != x.grade {
			t.Errorf("Grade of %v: %d, want %d", x.a, e, x.grade)
		}
	}
}

// TestNewMemory writes over results, and over arguments after the call, each with all memory behind its cells: neither must be seen in the other (P8.7).
func TestNewMemory(t *testing.T) {
	for _, p := range prims() {
		each(p, func(l ...api.Array) {
			var args []api.Array
			for _, a := range l {
				a.Cells = append(slices.Grow(slices.Clone(a.Cells), 500), 7)[:len(a.Cells)]
				args = append(args, a)
			}
			a, e := p.do(args)
			if e != api.OK {
				return
			}
			backs := whole(args)
			before := deep(backs)
			scribble(a)
			if !slices.EqualFunc(backs, before, equal) {
				t.Errorf("the result of %s of %v shares memory with an argument", p.name, l)
			}
			a, _ = p.do(args)
			kept := slices.Clone(a.Cells)
			for _, b := range backs {
				scribble(b)
			}
			if !slices.Equal(a.Cells, kept) {
				t.Errorf("%s of %v keeps an argument", p.name, l)
			}
		})
	}
}

// whole returns arrays with all memory behind their cells.
func whole(l []api.Array) []api.Array {
	var list []api.Array
	for _, a := range l {
		a.Cells = a.Cells[:cap(a.Cells)]
		list = append(list, a)
	}
	return list
}

func scribble(a api.Array) {
	for i := range a.Cells[:cap(a.Cells)] {
		a.Cells[:cap(a.Cells)][i] = -77
	}
}

// P8.1: Shape and Iota.

func lengths(a api.Array) (api.Array, api.Errno) {
	return vector([]int64{int64(a.Lens[0]), int64(a.Lens[1])}[:a.Rank]...), api.OK
}

func numbers(n api.Array) (api.Array, api.Errno) {
	switch many := n.Cells[0]; {
	case many < 0:
		return api.Array{}, api.ErrDomain
	case many > 400:
		return api.Array{}, api.ErrCells
	default:
		return counted(int(many)), api.OK
	}
}

func TestShape(t *testing.T) {
	for _, x := range []struct{ a, want api.Array }{
		{v, vector(4)},
		{number(7), vector()},
		{letter(65), vector()},
		{m, vector(2, 3)},
		{chars(2, pair{3, 1}, 65, 66, 67), vector(3, 1)},
		{vector(), vector(0)},
		{text(65, 65), vector(2)},
		{ints(2, pair{0, 0}), vector(0, 0)},
		{ints(2, pair{0, 7}), vector(0, 7)},
		{chars(2, pair{400, 0}), vector(400, 0)},
		{counted(400), vector(400)},
	} {
		a, e := finds.Shape(x.a)
		is(t, "Shape", a, e, x.want, api.OK)
	}
}

func TestIota(t *testing.T) {
	for _, x := range []struct {
		n    int64
		want api.Array
		e    api.Errno
	}{
		{3, vector(0, 1, 2), api.OK},
		{-1, api.Array{}, api.ErrDomain},
		{401, api.Array{}, api.ErrCells},
		{0, vector(), api.OK},
		{1, vector(0), api.OK},
		{400, counted(400), api.OK},
		{-400, api.Array{}, api.ErrDomain},
		{math.MaxInt64, api.Array{}, api.ErrCells},
		{math.MinInt64, api.Array{}, api.ErrDomain},
		{1<<32 + 2, api.Array{}, api.ErrCells},
		{-1<<32 + 2, api.Array{}, api.ErrDomain},
	} {
		a, e := finds.Iota(number(x.n))
		is(t, "Iota", a, e, x.want, x.e)
	}
	for n := int64(-410); n <= 410; n++ {
		want, f := numbers(number(n))
		a, e := finds.Iota(number(n))
		is(t, "Iota", a, e, want, f)
	}
}

// P8.7: shapes.

func TestGridOfShape(t *testing.T) {
	for _, a := range someArrays() {
		if a.Rank != 2 {
			continue
		}
		b, e := moves.Grid(must(t)(finds.Shape(a)), must(t)(moves.Ravel(a)))
		is(t, "Grid of shape and ravel", b, e, a, api.OK)
	}
}
