package extend_test

import (
	"slices"
	"testing"

	"invigilator/api"
	"invigilator/arrays"
	"invigilator/extend"
	"invigilator/moves"
)

// must returns an array that has no error beside it.
func must(t *testing.T) func(a api.Array, e api.Errno) api.Array {
	return func(a api.Array, e api.Errno) api.Array {
		t.Helper()
		if e != api.OK {
			t.Fatalf("error %d", e)
		}
		return a
	}
}

// good has arrays of both kinds.
func good() []api.Array { return slices.Concat(goodInts(), goodChars()) }

// eachOne does something with all primitives of one number and all int arrays.
func eachOne(do func(p int, a api.Array)) {
	for _, a := range goodInts() {
		for _, p := range ones {
			do(p, a)
		}
	}
}

// eachTwo does something with all primitives of two numbers and all pairs of arrays of the kinds that they need, which fit.
func eachTwo(do func(p int, a, b api.Array)) {
	list := good()
	for _, a := range list {
		for _, b := range list {
			if _, _, e := extend.Lens(a, b); e != api.OK || a.Kind != b.Kind {
				continue
			}
			for _, p := range twos {
				if a.Kind == api.KInt || p == api.PrEq || p == api.PrNe {
					do(p, a, b)
				}
			}
		}
	}
}

// P10.4: cell by cell.

// parts returns the cells of an array before a place and those from there on, as vectors; a scalar is both.
func parts(t *testing.T, a api.Array, at int64) (api.Array, api.Array) {
	t.Helper()
	if a.Rank == 0 {
		return a, a
	}
	return must(t)(moves.Take(number(at), a)), must(t)(moves.Drop(number(at), a))
}

// cat returns two results together, or the first error.
func cat(t *testing.T, a api.Array, e api.Errno, b api.Array, f api.Errno) (api.Array, api.Errno) {
	t.Helper()
	if e != api.OK {
		return api.Array{}, e
	}
	if f != api.OK {
		return api.Array{}, f
	}
	return must(t)(moves.Cat(a, b)), api.OK
}

var someCuts = []int64{0, 1, 2, 5, 6, 399, 400}

func TestPartsOfOne(t *testing.T) {
	eachOne(func(p int, a api.Array) {
		for _, at := range someCuts {
			if a.Rank != 1 {
				return
			}
			first, second := parts(t, a, at)
			left, e := extend.One(p, first)
			right, f := extend.One(p, second)
			want, g := cat(t, left, e, right, f)
			b, e := extend.One(p, a)
			is(t, p, []api.Array{a}, b, e, want, g)
		}
	})
}

func TestPartsOfTwo(t *testing.T) {
	eachTwo(func(p int, a, b api.Array) {
		if rank, _, _ := extend.Lens(a, b); rank != 1 {
			return
		}
		for _, at := range someCuts {
			a1, a2 := parts(t, a, at)
			b1, b2 := parts(t, b, at)
			left, e := extend.Two(p, a1, b1)
			right, f := extend.Two(p, a2, b2)
			want, g := cat(t, left, e, right, f)
			c, e := extend.Two(p, a, b)
			is(t, p, []api.Array{a, b}, c, e, want, g)
		}
	})
}

// TestOtherCells changes one cell of an operand after the other: all other cells of the result stay, and this one is that of the changed cell alone.
func TestOtherCells(t *testing.T) {
	for _, a := range []api.Array{vector(4, 2, 9), ints(2, pair{2, 3}, 3, 1, 4, 1, 5, 9), number(3)} {
		b := shaped(api.KInt, a.Rank, a.Lens, []int64{7, -5, 2, 6})
		for place := range a.Cells {
			for _, n := range []int64{-2, 1, 8} {
				c := must(t)(arrays.Make(a.Kind, a.Rank, a.Lens, a.Cells))
				c.Cells[place] = n
				for _, p := range ones {
					want := must(t)(extend.One(p, a))
					want.Cells[place] = must(t)(extend.One(p, number(n))).Cells[0]
					d, e := extend.One(p, c)
					is(t, p, []api.Array{c}, d, e, want, api.OK)
				}
				for _, p := range twos {
					want := must(t)(extend.Two(p, a, b))
					want.Cells[place] = must(t)(extend.Two(p, number(n), number(b.Cells[place]))).Cells[0]
					d, e := extend.Two(p, c, b)
					is(t, p, []api.Array{c, b}, d, e, want, api.OK)
					want = must(t)(extend.Two(p, b, a))
					want.Cells[place] = must(t)(extend.Two(p, number(b.Cells[place]), number(n))).Cells[0]
					d, e = extend.Two(p, b, c)
					is(t, p, []api.Array{b, c}, d, e, want, api.OK)
				}
			}
		}
	}
}

// turn is a move that One and Two commute with, and the least rank that it needs.
type turn struct {
	least int
	do    func(a api.Array) (api.Array, api.Errno)
}

var turns = []turn{{1, moves.Reverse}, {2, moves.Flip}}

// of returns an array turned; a scalar stays.
func (u turn) of(t *testing.T, a api.Array) api.Array {
	t.Helper()
	if a.Rank == 0 {
		return a
	}
	return must(t)(u.do(a))
}

// same compares the result of turned operands with the turned result. Which error comes may depend on the order of cells, but not whether one comes.
func (u turn) same(t *testing.T, p int, l []api.Array, turned api.Array, f api.Errno, a api.Array, e api.Errno) {
	t.Helper()
	if e != api.OK {
		if f == api.OK {
			t.Errorf("%d of %v: %d, but no error when they are turned", p, l, e)
		}
		return
	}
	is(t, p, l, turned, f, u.of(t, a), api.OK)
}

func TestTurnsOfOne(t *testing.T) {
	eachOne(func(p int, a api.Array) {
		for _, u := range turns {
			if a.Rank < u.least {
				continue
			}
			turned, f := extend.One(p, u.of(t, a))
			b, e := extend.One(p, a)
			u.same(t, p, []api.Array{a}, turned, f, b, e)
		}
	})
}

func TestTurnsOfTwo(t *testing.T) {
	eachTwo(func(p int, a, b api.Array) {
		rank, _, _ := extend.Lens(a, b)
		for _, u := range turns {
			if rank < u.least {
				continue
			}
			turned, f := extend.Two(p, u.of(t, a), u.of(t, b))
			c, e := extend.Two(p, a, b)
			u.same(t, p, []api.Array{a, b}, turned, f, c, e)
		}
	})
}

// P10.5: scalars.

// copies returns the array of this rank and these lengths, whose cells are all that of a scalar.
func copies(t *testing.T, s api.Array, rank int, lens pair) api.Array {
	t.Helper()
	switch rank {
	case 0:
		return s
	case 1:
		return must(t)(moves.Fill(number(int64(lens[0])), s))
	default:
		return must(t)(moves.Grid(vector(int64(lens[0]), int64(lens[1])), must(t)(moves.Ravel(s))))
	}
}

func TestCopiesOfScalars(t *testing.T) {
	eachTwo(func(p int, a, s api.Array) {
		if s.Rank != 0 {
			return
		}
		many := copies(t, s, a.Rank, a.Lens)
		want, f := extend.Two(p, a, many)
		b, e := extend.Two(p, a, s)
		is(t, p, []api.Array{a, s}, b, e, want, f)
		want, f = extend.Two(p, many, a)
		b, e = extend.Two(p, s, a)
		is(t, p, []api.Array{s, a}, b, e, want, f)
	})
}

func TestOneOfCopies(t *testing.T) {
	eachOne(func(p int, s api.Array) {
		if s.Rank != 0 {
			return
		}
		b, f := extend.One(p, s)
		for _, x := range someShapes {
			many := copies(t, s, x.rank, x.lens)
			c, e := extend.One(p, many)
			if len(many.Cells) == 0 {
				is(t, p, []api.Array{many}, c, e, many, api.OK)
				continue
			}
			want := api.Array{}
			if f == api.OK {
				want = copies(t, b, x.rank, x.lens)
			}
			is(t, p, []api.Array{many}, c, e, want, f)
		}
	})
}

// TestOtherOrder asks for operands that fit and for those that do not, and for what is no array.
func TestOtherOrder(t *testing.T) {
	list := all()
	for _, p := range []int{api.PrAdd, api.PrMul, api.PrEq, api.PrNe, api.PrAnd, api.PrOr, api.PrMin, api.PrMax} {
		for _, a := range list {
			for _, b := range list {
				c, e := extend.Two(p, a, b)
				d, f := extend.Two(p, b, a)
				if !equal(c, d) || (e == api.OK) != (f == api.OK) {
					t.Errorf("%d of %v, %v: %v, %d; in the other order %v, %d", p, a, b, c, e, d, f)
				}
			}
		}
	}
}

// P10.6: errors are those of cells; kinds and shapes are known before.

func TestErrorsOfOne(t *testing.T) {
	eachOne(func(p int, a api.Array) {
		_, e := extend.One(p, a)
		fails := slices.ContainsFunc(a.Cells, func(n int64) bool {
			_, f := extend.One(p, number(n))
			return f != api.OK
		})
		if (e != api.OK) != fails {
			t.Errorf("%d of %v: %d, but whether a cell has an error: %v", p, a, e, fails)
		}
	})
}

func TestErrorsOfTwo(t *testing.T) {
	eachTwo(func(p int, a, b api.Array) {
		_, e := extend.Two(p, a, b)
		many := len(a.Cells)
		if a.Rank == 0 {
			many = len(b.Cells)
		}
		first, second := spread(a, many), spread(b, many)
		fails := false
		for place := range many {
			x, y := number(first[place]), number(second[place])
			if a.Kind == api.KChar {
				x, y = letter(first[place]), letter(second[place])
			}
			_, f := extend.Two(p, x, y)
			fails = fails || f != api.OK
		}
		if (e != api.OK) != fails {
			t.Errorf("%d of %v, %v: %d, but whether a cell has an error: %v", p, a, b, e, fails)
		}
	})
}

// TestKnownBefore asks for each pair of arrays again with other cells: the results are ints of the same shapes, and errors that are not of cells stay.
func TestKnownBefore(t *testing.T) {
	plain := func(a api.Array) api.Array { return shaped(a.Kind, a.Rank, a.Lens, []int64{1}) }
	ofCells := []api.Errno{api.OK, api.ErrOverflow, api.ErrDomain}
	list := good()
	for _, a := range list {
		for _, b := range list {
			rank, lens, none := extend.Lens(a, b)
			if r, l, e := extend.Lens(plain(a), plain(b)); r != rank || l != lens || e != none {
				t.Errorf("Lens of %v, %v depends on cells: %d, %v, %d; %d, %v, %d", a, b, rank, lens, none, r, l, e)
			}
			for _, p := range twos {
				// What is 1 everywhere has no error of cells.
				c, e := extend.Two(p, plain(a), plain(b))
				if e == api.OK && (c.Kind != api.KInt || c.Rank != rank || c.Lens != lens || arrays.Check(c) != api.OK) {
					t.Errorf("%d of ones like %v, %v: %v", p, a, b, c)
				}
				d, f := extend.Two(p, a, b)
				if e != f && (e != api.OK || !slices.Contains(ofCells, f)) {
					t.Errorf("%d of %v, %v: %d, of ones %d", p, a, b, f, e)
				}
				if f == api.OK && !arrays.Like(c, d) {
					t.Errorf("%d of %v, %v: %v, of ones %v", p, a, b, d, c)
				}
			}
		}
	}
}

// P10.6: results are new memory.

// roomy returns an array with a copy of the cells, and memory behind them.
func roomy(a api.Array) api.Array {
	a.Cells = append(slices.Grow(slices.Clone(a.Cells), 500), 7)[:len(a.Cells)]
	return a
}

// whole returns all memory of the cells of arrays.
func whole(l []api.Array) [][]int64 {
	var list [][]int64
	for _, a := range l {
		list = append(list, a.Cells[:cap(a.Cells)])
	}
	return list
}

func scribble(cells []int64) {
	for i := range cells {
		cells[i] = -77
	}
}

// apart writes over a result, and over the arguments after the call: neither must be seen in the other, nor in the result of the same call again.
func apart(t *testing.T, p int, do func(l []api.Array) (api.Array, api.Errno), l ...api.Array) {
	t.Helper()
	for i := range l {
		l[i] = roomy(l[i])
	}
	a, e := do(l)
	if e != api.OK {
		return
	}
	var before [][]int64
	for _, cells := range whole(l) {
		before = append(before, slices.Clone(cells))
	}
	first := slices.Clone(a.Cells)
	scribble(a.Cells[:cap(a.Cells)])
	if !slices.EqualFunc(whole(l), before, slices.Equal) {
		t.Errorf("the result of %d of %v shares memory with an argument", p, l)
	}
	a, _ = do(l)
	if !slices.Equal(a.Cells, first) {
		t.Errorf("%d of %v: %v, and then %v", p, l, first, a.Cells)
	}
	for _, cells := range whole(l) {
		scribble(cells)
	}
	if !slices.Equal(a.Cells, first) {
		t.Errorf("%d keeps an argument", p)
	}
}

func TestNewMemory(t *testing.T) {
	eachOne(func(p int, a api.Array) {
		apart(t, p, func(l []api.Array) (api.Array, api.Errno) { return extend.One(p, l[0]) }, a)
	})
	eachTwo(func(p int, a, b api.Array) {
		apart(t, p, func(l []api.Array) (api.Array, api.Errno) { return extend.Two(p, l[0], l[1]) }, a, b)
	})
}
