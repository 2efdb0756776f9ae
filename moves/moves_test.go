package moves_test

import (
	"math"
	"slices"
	"testing"

	"invigilator/api"
	"invigilator/arrays"
	"invigilator/moves"
	"invigilator/shapes"
)

type pair = [2]int

// ints and chars return arrays with these parts, whatever they are.
func ints(rank int, lens pair, cells ...int64) api.Array {
	return api.Array{Kind: api.KInt, Rank: rank, Lens: lens, Cells: cells}
}

func chars(rank int, lens pair, cells ...int64) api.Array {
	return api.Array{Kind: api.KChar, Rank: rank, Lens: lens, Cells: cells}
}

// number and vector return int arrays of rank 0 and 1, letter and text those of chars.
func number(n int64) api.Array        { return ints(0, pair{}, n) }
func letter(r int64) api.Array        { return chars(0, pair{}, r) }
func vector(cells ...int64) api.Array { return ints(1, pair{len(cells), 0}, cells...) }
func text(cells ...int64) api.Array   { return chars(1, pair{len(cells), 0}, cells...) }

// v and m are those of the chapter's examples.
var (
	v = vector(1, 2, 3)
	m = ints(2, pair{2, 3}, 1, 2, 3, 4, 5, 6)
)

func equal(a, b api.Array) bool {
	return a.Kind == b.Kind && a.Rank == b.Rank && a.Lens == b.Lens && slices.Equal(a.Cells, b.Cells)
}

// is fails the test if an array is not the wanted one, or nothing beside an error.
func is(t *testing.T, name string, a api.Array, e api.Errno, want api.Array, f api.Errno) {
	t.Helper()
	if f != api.OK {
		want = api.Array{}
	}
	if e != f || !equal(a, want) {
		t.Errorf("%s: %v, %d, want %v, %d", name, a, e, want, f)
	}
}

// must returns an array that has no error beside it.
func must(t *testing.T) func(a api.Array, e api.Errno) api.Array {
	return func(a api.Array, e api.Errno) api.Array {
		t.Helper()
		if e != api.OK {
			t.Fatalf("error %d", e)
		}
		return a
	}
}

// someShapes has shapes of all ranks, with few, many and no cells.
var someShapes = []struct {
	rank int
	lens pair
}{
	{0, pair{}},
	{1, pair{0, 0}}, {1, pair{1, 0}}, {1, pair{2, 0}}, {1, pair{3, 0}}, {1, pair{4, 0}}, {1, pair{200, 0}}, {1, pair{399, 0}}, {1, pair{400, 0}},
	{2, pair{0, 0}}, {2, pair{0, 1}}, {2, pair{0, 7}}, {2, pair{7, 0}}, {2, pair{1, 0}},
	{2, pair{1, 1}}, {2, pair{1, 3}}, {2, pair{3, 1}}, {2, pair{2, 2}}, {2, pair{2, 3}}, {2, pair{3, 2}}, {2, pair{3, 3}},
	{2, pair{20, 10}}, {2, pair{20, 11}}, {2, pair{20, 20}}, {2, pair{400, 0}}, {2, pair{400, 1}}, {2, pair{1, 399}}, {2, pair{1, 400}},
	{2, pair{0, 200}}, {2, pair{0, 201}}, {2, pair{0, 399}}, {2, pair{0, 400}},
}

// someArrays has arrays of both kinds with these shapes; the cells of an array differ, and none is its place.
func someArrays() []api.Array {
	var list []api.Array
	for _, s := range someShapes {
		n, _ := shapes.Cells(s.rank, s.lens)
		var numbers, letters []int64
		for i := range int64(n) {
			numbers = append(numbers, math.MinInt64+i, math.MaxInt64-i)
			letters = append(letters, 0x10FFFF-i)
		}
		list = append(list, ints(s.rank, s.lens, numbers[:n:n]...), chars(s.rank, s.lens, letters...))
	}
	return list
}

// farInts has numbers at the ends of 64 bits, and some that are 0, or a length, in fewer.
var farInts = []int64{math.MinInt64, math.MinInt64 + 1, math.MinInt64 + 3, -1 << 32, -1<<32 + 2, 1 << 32, 1<<32 + 2, 1 << 62, math.MaxInt64 - 1, math.MaxInt64}

// badArrays has what is no array, with what arrays.Check returns.
var badArrays = []struct {
	a api.Array
	e api.Errno
}{
	{api.Array{}, api.ErrArg},
	{api.Array{Kind: 3, Cells: []int64{2}}, api.ErrArg},
	{api.Array{Kind: -1, Rank: 1, Lens: pair{2, 0}, Cells: []int64{1, 2}}, api.ErrArg},
	{api.Array{Kind: math.MaxInt, Rank: 2, Lens: pair{1, 1}, Cells: []int64{1}}, api.ErrArg},
	{ints(3, pair{}, 5), api.ErrRange},
	{chars(-1, pair{}, 65), api.ErrRange},
	{ints(1, pair{-1, 0}), api.ErrRange},
	{ints(2, pair{3, -1}), api.ErrRange},
	{ints(0, pair{1, 0}, 5), api.ErrForm},
	{chars(1, pair{1, 1}, 65), api.ErrForm},
	{ints(0, pair{}), api.ErrForm},
	{ints(0, pair{}, 5, 6), api.ErrForm},
	{ints(1, pair{2, 0}, 5), api.ErrForm},
	{ints(1, pair{2, 0}, 5, 6, 7), api.ErrForm},
	{chars(2, pair{2, 2}, 65, 66, 67), api.ErrForm},
	{ints(2, pair{0, 7}, 1), api.ErrForm},
	{ints(2, pair{math.MaxInt, math.MaxInt}), api.ErrCells},
	{ints(1, pair{401, 0}, make([]int64, 401)...), api.ErrCells},
	{chars(2, pair{0, 401}), api.ErrCells},
	{chars(0, pair{}, 55296), api.ErrRange},
	{chars(1, pair{2, 0}, 65, -1), api.ErrRange},
	{chars(2, pair{1, 2}, 65, 1114112), api.ErrRange},
}

// all has arrays of both kinds and all ranks, what is none, scalars of many numbers, and vectors of lengths.
func all() []api.Array {
	list := someArrays()
	for _, x := range badArrays {
		list = append(list, x.a)
	}
	for _, n := range append([]int64{-401, -400, -5, -3, -2, -1, 0, 1, 2, 3, 5, 399, 400, 401}, farInts...) {
		list = append(list, number(n))
	}
	for _, l := range [][]int64{{2, 2}, {0, 3}, {3, 0}, {1, 1}, {20, 20}, {21, 20}, {-1, 401}, {401, -1}, {0, 401}, {1, 2, 3}} {
		list = append(list, vector(l...))
	}
	return append(list, letter(0), letter(2), text(2, 2), text(1, 2, 3))
}

// prim is a primitive: what it does; whether its first operand must be of ints, or all of one kind; the ranks that its operands may have; and its result by the table, for operands that are as these say.
type prim struct {
	name  string
	many  int
	do    func(l []api.Array) (api.Array, api.Errno)
	ints  bool
	alike bool
	ranks [][]int
	want  func(l []api.Array) (api.Array, api.Errno)
}

func one(f func(a api.Array) (api.Array, api.Errno)) func(l []api.Array) (api.Array, api.Errno) {
	return func(l []api.Array) (api.Array, api.Errno) { return f(l[0]) }
}

func two(f func(a, b api.Array) (api.Array, api.Errno)) func(l []api.Array) (api.Array, api.Errno) {
	return func(l []api.Array) (api.Array, api.Errno) { return f(l[0], l[1]) }
}

func prims() []prim {
	return []prim{
		{"Ravel", 1, one(moves.Ravel), false, false, [][]int{{0}, {1}, {2}}, one(ravelled)},
		{"Reverse", 1, one(moves.Reverse), false, false, [][]int{{1}, {2}}, one(reversed)},
		{"Flip", 1, one(moves.Flip), false, false, [][]int{{2}}, one(flipped)},
		{"Take", 2, two(moves.Take), true, false, [][]int{{0, 1}}, two(taken)},
		{"Drop", 2, two(moves.Drop), true, false, [][]int{{0, 1}}, two(dropped)},
		{"Fill", 2, two(moves.Fill), true, false, [][]int{{0, 0}}, two(filled)},
		{"Grid", 2, two(moves.Grid), true, false, [][]int{{1, 1}}, two(gridded)},
		{"Cat", 2, two(moves.Cat), false, true, [][]int{{1, 1}, {2, 2}}, two(joined)},
	}
}

// expected returns what the promises say of a primitive: the errors that all have, in their order, and then what the table says.
func expected(p prim, l []api.Array) (api.Array, api.Errno) {
	var ranks []int
	for _, a := range l {
		if e := arrays.Check(a); e != api.OK {
			return api.Array{}, e
		}
		ranks = append(ranks, a.Rank)
	}
	if p.ints && l[0].Kind != api.KInt || p.alike && l[0].Kind != l[1].Kind {
		return api.Array{}, api.ErrKind
	}
	if !slices.ContainsFunc(p.ranks, func(fits []int) bool { return slices.Equal(fits, ranks) }) {
		return api.Array{}, api.ErrRank
	}
	return p.want(l)
}

// ask compares a primitive with what is expected. Its result must be an array of the last operand's kind.
func ask(t *testing.T, p prim, l ...api.Array) {
	t.Helper()
	want, f := expected(p, l)
	before := deep(l)
	a, e := p.do(l)
	if e != f || f == api.OK && !equal(a, want) || f != api.OK && !equal(a, api.Array{}) {
		t.Errorf("%s of %v: %v, %d, want %v, %d", p.name, l, a, e, want, f)
	}
	if e == api.OK && (arrays.Check(a) != api.OK || a.Kind != l[len(l)-1].Kind) {
		t.Errorf("%s of %v is no array of their kind: %v", p.name, l, a)
	}
	if !slices.EqualFunc(l, before, equal) {
		t.Errorf("%s has changed its arguments: %v, were %v", p.name, l, before)
	}
}

func deep(l []api.Array) []api.Array {
	var list []api.Array
	for _, a := range l {
		a.Cells = slices.Clone(a.Cells)
		list = append(list, a)
	}
	return list
}

// each does something with all operands of a primitive.
func each(p prim, do func(l ...api.Array)) {
	for _, a := range all() {
		if p.many == 1 {
			do(a)
			continue
		}
		for _, b := range all() {
			do(a, b)
		}
	}
}

// P7.1 to P7.4, for all operands; the errors that all primitives have; P7.7: results are arrays, kinds stay, and arguments are not modified.

func TestAll(t *testing.T) {
	for _, p := range prims() {
		each(p, func(l ...api.Array) { ask(t, p, l...) })
	}
}

func TestNoArrays(t *testing.T) {
	for _, x := range badArrays {
		if e := arrays.Check(x.a); e != x.e {
			t.Fatalf("Check of %v: %d", x.a, e)
		}
		for _, p := range prims() {
			// Operands that fit, that have another kind or rank, and that are no arrays either.
			for _, b := range []api.Array{v, m, number(2), letter(65), text(65), chars(2, pair{1, 1}, 65)} {
				a, e := p.do([]api.Array{x.a, b})
				is(t, p.name+" of no array", a, e, api.Array{}, x.e)
				if p.many == 2 {
					a, e = p.do([]api.Array{b, x.a})
					is(t, p.name+" of no second array", a, e, api.Array{}, x.e)
				}
			}
			for _, y := range badArrays {
				a, e := p.do([]api.Array{x.a, y.a})
				is(t, p.name+" of no arrays", a, e, api.Array{}, x.e)
			}
		}
	}
}

func TestKindsAndRanks(t *testing.T) {
	for _, x := range []struct {
		name string
		do   func(a, b api.Array) (api.Array, api.Errno)
		a, b api.Array
		want api.Errno
	}{
		{"Take", moves.Take, letter(2), v, api.ErrKind},
		{"Take", moves.Take, text(2), number(1), api.ErrKind}, // the kind comes before the ranks
		{"Take", moves.Take, v, v, api.ErrRank},
		{"Take", moves.Take, vector(2), v, api.ErrRank},
		{"Take", moves.Take, number(2), number(2), api.ErrRank},
		{"Take", moves.Take, number(2), m, api.ErrRank},
		{"Drop", moves.Drop, letter(2), v, api.ErrKind},
		{"Drop", moves.Drop, text(2), m, api.ErrKind},
		{"Drop", moves.Drop, vector(2), v, api.ErrRank},
		{"Drop", moves.Drop, number(2), m, api.ErrRank},
		{"Fill", moves.Fill, letter(2), number(2), api.ErrKind},
		{"Fill", moves.Fill, text(2), v, api.ErrKind},
		{"Fill", moves.Fill, vector(2), number(2), api.ErrRank},
		{"Fill", moves.Fill, number(2), v, api.ErrRank},
		{"Fill", moves.Fill, number(-1), v, api.ErrRank}, // the ranks come before the numbers
		{"Fill", moves.Fill, number(401), text(65), api.ErrRank},
		{"Grid", moves.Grid, text(2, 2), v, api.ErrKind},
		{"Grid", moves.Grid, letter(2), m, api.ErrKind},
		{"Grid", moves.Grid, number(2), v, api.ErrRank},
		{"Grid", moves.Grid, vector(2, 2), number(1), api.ErrRank},
		{"Grid", moves.Grid, vector(2, 3), m, api.ErrRank},
		{"Grid", moves.Grid, vector(2), m, api.ErrRank},
		{"Grid", moves.Grid, m, v, api.ErrRank},
		{"Cat", moves.Cat, v, text(1, 2, 3), api.ErrKind},
		{"Cat", moves.Cat, text(1, 2, 3), v, api.ErrKind},
		{"Cat", moves.Cat, vector(), text(), api.ErrKind},
		{"Cat", moves.Cat, v, chars(2, pair{1, 1}, 65), api.ErrKind},
		{"Cat", moves.Cat, number(1), letter(1), api.ErrKind},
		{"Cat", moves.Cat, number(1), number(2), api.ErrRank},
		{"Cat", moves.Cat, number(1), v, api.ErrRank},
		{"Cat", moves.Cat, v, number(1), api.ErrRank},
		{"Cat", moves.Cat, v, m, api.ErrRank},
		{"Cat", moves.Cat, m, v, api.ErrRank},
		{"Cat", moves.Cat, v, ints(2, pair{1, 3}, 1, 2, 3), api.ErrRank},
	} {
		a, e := x.do(x.a, x.b)
		is(t, x.name, a, e, api.Array{}, x.want)
	}
	for _, a := range []api.Array{number(1), letter(65)} {
		b, e := moves.Reverse(a)
		is(t, "Reverse of a scalar", b, e, api.Array{}, api.ErrRank)
	}
	for _, a := range []api.Array{number(1), letter(65), v, text(65), vector()} {
		b, e := moves.Flip(a)
		is(t, "Flip of no matrix", b, e, api.Array{}, api.ErrRank)
	}
}

// TestNewMemory writes over results, and over arguments after the call, each with all memory behind its cells: neither must be seen in the other (P7.7).
func TestNewMemory(t *testing.T) {
	for _, p := range prims() {
		each(p, func(l ...api.Array) {
			var args []api.Array
			for _, a := range l {
				a.Cells = append(slices.Grow(slices.Clone(a.Cells), 500), 7)[:len(a.Cells)]
				args = append(args, a)
			}
			a, e := p.do(args)
			if e != api.OK {
				return
			}
			backs := whole(args)
			before := deep(backs)
			scribble(a)
			if !slices.EqualFunc(backs, before, equal) {
				t.Errorf("the result of %s of %v shares memory with an argument", p.name, l)
			}
			a, _ = p.do(args)
			kept := slices.Clone(a.Cells)
			for _, b := range backs {
				scribble(b)
			}
			if !slices.Equal(a.Cells, kept) {
				t.Errorf("%s of %v keeps an argument", p.name, l)
			}
		})
	}
}

// whole returns arrays with all memory behind their cells.
func whole(l []api.Array) []api.Array {
	var list []api.Array
	for _, a := range l {
		a.Cells = a.Cells[:cap(a.Cells)]
		list = append(list, a)
	}
	return list
}

func scribble(a api.Array) {
	for i := range a.Cells[:cap(a.Cells)] {
		a.Cells[:cap(a.Cells)][i] = -77
	}
}

// P7.1: Ravel, Reverse and Flip.

func ravelled(a api.Array) (api.Array, api.Errno) {
	return api.Array{Kind: a.Kind, Rank: 1, Lens: pair{len(a.Cells), 0}, Cells: a.Cells}, api.OK
}

func reversed(a api.Array) (api.Array, api.Errno) {
	return mapped(a, a.Lens, func(at pair) pair {
		at[a.Rank-1] = a.Lens[a.Rank-1] - 1 - at[a.Rank-1]
		return at
	})
}

func flipped(a api.Array) (api.Array, api.Errno) {
	return mapped(a, pair{a.Lens[1], a.Lens[0]}, func(at pair) pair { return pair{at[1], at[0]} })
}

// mapped returns the array with these lengths whose cell at each index is that of a at another one.
func mapped(a api.Array, lens pair, from func(at pair) pair) (api.Array, api.Errno) {
	b := api.Array{Kind: a.Kind, Rank: a.Rank, Lens: lens}
	for place := range a.Cells {
		at, _ := shapes.Index(a.Rank, lens, place)
		cell, e := arrays.At(a, from(at))
		if e != api.OK {
			return api.Array{}, e
		}
		b.Cells = append(b.Cells, cell)
	}
	return b, api.OK
}

func TestRavel(t *testing.T) {
	for _, x := range []struct{ a, want api.Array }{
		{v, v},
		{m, vector(1, 2, 3, 4, 5, 6)},
		{number(7), vector(7)},
		{letter(65), text(65)},
		{chars(2, pair{2, 1}, 65, 66), text(65, 66)},
		{vector(), vector()},
		{ints(2, pair{0, 7}), vector()},
		{chars(2, pair{7, 0}), text()},
	} {
		a, e := moves.Ravel(x.a)
		is(t, "Ravel", a, e, x.want, api.OK)
	}
}

func TestReverse(t *testing.T) {
	for _, x := range []struct{ a, want api.Array }{
		{v, vector(3, 2, 1)},
		{m, ints(2, pair{2, 3}, 3, 2, 1, 6, 5, 4)},
		{ints(2, pair{3, 2}, 1, 2, 3, 4, 5, 6), ints(2, pair{3, 2}, 2, 1, 4, 3, 6, 5)},
		{text(65, 66), text(66, 65)},
		{chars(2, pair{2, 1}, 65, 66), chars(2, pair{2, 1}, 65, 66)},
		{chars(2, pair{1, 2}, 65, 66), chars(2, pair{1, 2}, 66, 65)},
		{vector(5), vector(5)},
		{vector(), vector()},
		{ints(2, pair{0, 7}), ints(2, pair{0, 7})},
		{ints(2, pair{7, 0}), ints(2, pair{7, 0})},
		{vector(math.MinInt64, 1, math.MaxInt64, 2), vector(2, math.MaxInt64, 1, math.MinInt64)},
	} {
		a, e := moves.Reverse(x.a)
		is(t, "Reverse", a, e, x.want, api.OK)
	}
}

func TestFlip(t *testing.T) {
	for _, x := range []struct{ a, want api.Array }{
		{m, ints(2, pair{3, 2}, 1, 4, 2, 5, 3, 6)},
		{ints(2, pair{1, 3}, 1, 2, 3), ints(2, pair{3, 1}, 1, 2, 3)},
		{ints(2, pair{2, 2}, 1, 2, 3, 4), ints(2, pair{2, 2}, 1, 3, 2, 4)},
		{chars(2, pair{3, 2}, 65, 66, 67, 68, 69, 70), chars(2, pair{2, 3}, 65, 67, 69, 66, 68, 70)},
		{ints(2, pair{1, 1}, 5), ints(2, pair{1, 1}, 5)},
		{ints(2, pair{0, 0}), ints(2, pair{0, 0})},
		{ints(2, pair{0, 7}), ints(2, pair{7, 0})},
		{chars(2, pair{400, 0}), chars(2, pair{0, 400})},
	} {
		a, e := moves.Flip(x.a)
		is(t, "Flip", a, e, x.want, api.OK)
	}
}

// P7.5: back.

func TestBack(t *testing.T) {
	for _, a := range someArrays() {
		if a.Rank == 0 {
			continue
		}
		reverse := must(t)(moves.Reverse(a))
		is(t, "Reverse twice", must(t)(moves.Reverse(reverse)), api.OK, a, api.OK)
		sameCells(t, reverse, a)
		if a.Rank == 1 {
			continue
		}
		flip := must(t)(moves.Flip(a))
		is(t, "Flip twice", must(t)(moves.Flip(flip)), api.OK, a, api.OK)
		sameCells(t, flip, a)
		turned := a
		for range 4 {
			turned = must(t)(moves.Reverse(must(t)(moves.Flip(turned))))
		}
		is(t, "Reverse of flip, four times", turned, api.OK, a, api.OK)
	}
}

func sameCells(t *testing.T, a, b api.Array) {
	t.Helper()
	if !slices.Equal(slices.Sorted(slices.Values(a.Cells)), slices.Sorted(slices.Values(b.Cells))) {
		t.Errorf("not the same cells: %v, %v", a, b)
	}
}

func TestTurn(t *testing.T) {
	turn := func(a api.Array) api.Array { return must(t)(moves.Reverse(must(t)(moves.Flip(a)))) }
	for i, want := range []api.Array{
		ints(2, pair{3, 2}, 4, 1, 5, 2, 6, 3),
		ints(2, pair{2, 3}, 6, 5, 4, 3, 2, 1),
		ints(2, pair{3, 2}, 3, 6, 2, 5, 1, 4),
		m,
	} {
		a := m
		for range i + 1 {
			a = turn(a)
		}
		is(t, "a turn", a, api.OK, want, api.OK)
	}
}
