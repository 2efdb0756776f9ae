package moves_test

import (
	"math"
	"math/big"
	"slices"
	"strconv"
	"testing"

	"invigilator/api"
	"invigilator/moves"
)

// P7.3: Fill and Grid.

func filled(n, s api.Array) (api.Array, api.Errno) {
	switch many := n.Cells[0]; {
	case many < 0:
		return api.Array{}, api.ErrDomain
	case many > 400:
		return api.Array{}, api.ErrCells
	default:
		return api.Array{Kind: s.Kind, Rank: 1, Lens: pair{int(many), 0}, Cells: slices.Repeat(s.Cells, int(many))}, api.OK
	}
}

func gridded(l, v api.Array) (api.Array, api.Errno) {
	if len(l.Cells) != 2 {
		return api.Array{}, api.ErrLength
	}
	rows, columns := l.Cells[0], l.Cells[1]
	many := new(big.Int).Mul(big.NewInt(rows), big.NewInt(columns))
	switch {
	case rows < 0 || columns < 0:
		return api.Array{}, api.ErrDomain
	case rows > 400 || columns > 400 || many.Cmp(big.NewInt(400)) > 0:
		return api.Array{}, api.ErrCells
	case len(v.Cells) == 0 && many.Sign() > 0:
		return api.Array{}, api.ErrDomain
	}
	b := api.Array{Kind: v.Kind, Rank: 2, Lens: pair{int(rows), int(columns)}}
	for i := range int(many.Int64()) {
		b.Cells = append(b.Cells, v.Cells[i%len(v.Cells)])
	}
	return b, api.OK
}

func TestFill(t *testing.T) {
	for _, x := range []struct {
		n       int64
		s, want api.Array
		e       api.Errno
	}{
		{2, letter(120), text(120, 120), api.OK},
		{-1, letter(120), api.Array{}, api.ErrDomain},
		{3, number(-7), vector(-7, -7, -7), api.OK},
		{1, number(math.MinInt64), vector(math.MinInt64), api.OK},
		{0, number(5), vector(), api.OK},
		{0, letter(120), text(), api.OK},
		{2, letter(0x10FFFF), text(0x10FFFF, 0x10FFFF), api.OK},
		{400, number(5), vector(slices.Repeat([]int64{5}, 400)...), api.OK},
		{401, number(5), api.Array{}, api.ErrCells},
		{401, letter(120), api.Array{}, api.ErrCells},
		{-401, number(5), api.Array{}, api.ErrDomain},
		{math.MaxInt64, number(5), api.Array{}, api.ErrCells},
		{math.MinInt64, number(5), api.Array{}, api.ErrDomain},
		{1<<32 + 2, number(5), api.Array{}, api.ErrCells},
		{-1<<32 + 2, number(5), api.Array{}, api.ErrDomain},
	} {
		a, e := moves.Fill(number(x.n), x.s)
		is(t, "Fill", a, e, x.want, x.e)
	}
	eachNumber(func(n int64) {
		for _, s := range []api.Array{number(-3), letter(65)} {
			a, e := moves.Fill(number(n), s)
			want, f := filled(number(n), s)
			is(t, "Fill of "+strconv.FormatInt(n, 10), a, e, want, f)
		}
	})
}

func TestGrid(t *testing.T) {
	for _, x := range []struct {
		l       []int64
		v, want api.Array
		e       api.Errno
	}{
		{[]int64{2, 2}, v, ints(2, pair{2, 2}, 1, 2, 3, 1), api.OK},
		{[]int64{0, 3}, vector(), ints(2, pair{0, 3}), api.OK},
		{[]int64{1, 1}, vector(), api.Array{}, api.ErrDomain},
		{[]int64{2, 3}, vector(7), ints(2, pair{2, 3}, 7, 7, 7, 7, 7, 7), api.OK},
		{[]int64{1, 2}, v, ints(2, pair{1, 2}, 1, 2), api.OK},
		{[]int64{3, 1}, v, ints(2, pair{3, 1}, 1, 2, 3), api.OK},
		{[]int64{3, 3}, text(65, 66), chars(2, pair{3, 3}, 65, 66, 65, 66, 65, 66, 65, 66, 65), api.OK},
		{[]int64{3, 0}, text(), chars(2, pair{3, 0}), api.OK},
		{[]int64{0, 0}, vector(), ints(2, pair{0, 0}), api.OK},
		{[]int64{0, 0}, v, ints(2, pair{0, 0}), api.OK},
		{[]int64{400, 0}, v, ints(2, pair{400, 0}), api.OK},
		{[]int64{0, 400}, vector(), ints(2, pair{0, 400}), api.OK},
		{[]int64{2, 1}, text(), api.Array{}, api.ErrDomain},
		{nil, v, api.Array{}, api.ErrLength},
		{[]int64{4}, v, api.Array{}, api.ErrLength},
		{[]int64{1, 1, 1}, v, api.Array{}, api.ErrLength},
		{[]int64{-1}, v, api.Array{}, api.ErrLength}, // how many they are comes before what they are
		{[]int64{401, 1, 1}, vector(), api.Array{}, api.ErrLength},
		{[]int64{-1, 2}, v, api.Array{}, api.ErrDomain},
		{[]int64{2, -1}, v, api.Array{}, api.ErrDomain},
		{[]int64{-2, -3}, v, api.Array{}, api.ErrDomain},
		{[]int64{0, -1}, v, api.Array{}, api.ErrDomain},
		{[]int64{-1, 0}, vector(), api.Array{}, api.ErrDomain},
		{[]int64{-1, 401}, v, api.Array{}, api.ErrDomain}, // below 0 comes before too many
		{[]int64{401, -1}, v, api.Array{}, api.ErrDomain},
		{[]int64{math.MaxInt64, math.MinInt64}, vector(), api.Array{}, api.ErrDomain},
		{[]int64{401, 0}, v, api.Array{}, api.ErrCells},
		{[]int64{0, 401}, v, api.Array{}, api.ErrCells},
		{[]int64{0, 401}, vector(), api.Array{}, api.ErrCells},
		{[]int64{21, 20}, v, api.Array{}, api.ErrCells},
		{[]int64{20, 21}, vector(), api.Array{}, api.ErrCells}, // too many come before no cells
		{[]int64{400, 2}, vector(), api.Array{}, api.ErrCells},
		{[]int64{math.MaxInt64, math.MaxInt64}, v, api.Array{}, api.ErrCells},
		{[]int64{0, math.MaxInt64}, vector(), api.Array{}, api.ErrCells},
		// The products of these are 0, or small, in 64 bits; and the numbers in 32.
		{[]int64{1 << 32, 1 << 32}, v, api.Array{}, api.ErrCells},
		{[]int64{4, 1 << 62}, v, api.Array{}, api.ErrCells},
		{[]int64{1 << 62, 4}, v, api.Array{}, api.ErrCells},
		{[]int64{1<<32 + 2, 2}, v, api.Array{}, api.ErrCells},
	} {
		a, e := moves.Grid(vector(x.l...), x.v)
		is(t, "Grid", a, e, x.want, x.e)
	}
}

// TestGridOfAll compares Grid with the table for small lengths, those near the limits, and far ones.
func TestGridOfAll(t *testing.T) {
	lengths := append([]int64{-401, -400, -2, -1, 0, 1, 2, 3, 4, 5, 6, 7, 19, 20, 21, 100, 133, 134, 200, 201, 399, 400, 401, 402}, farInts...)
	for _, a := range someArrays() {
		if a.Rank != 1 {
			continue
		}
		for _, rows := range lengths {
			for _, columns := range lengths {
				l := vector(rows, columns)
				want, f := gridded(l, a)
				b, e := moves.Grid(l, a)
				is(t, "Grid of "+strconv.FormatInt(rows, 10)+" "+strconv.FormatInt(columns, 10), b, e, want, f)
			}
		}
	}
}

// P7.7: shapes.

func TestGridOfRavel(t *testing.T) {
	for _, a := range someArrays() {
		if a.Rank != 2 {
			continue
		}
		cells := must(t)(moves.Ravel(a))
		b, e := moves.Grid(vector(int64(a.Lens[0]), int64(a.Lens[1])), cells)
		is(t, "Grid of ravel", b, e, a, api.OK)
	}
}

// TestRavelOfGrid cuts the cells of grids into vectors that must be the given one, and a last one that must be its beginning.
func TestRavelOfGrid(t *testing.T) {
	for _, a := range someArrays() {
		if a.Rank != 1 || len(a.Cells) == 0 {
			continue
		}
		for _, l := range [][]int64{{2, 2}, {1, 7}, {20, 20}, {3, 100}, {400, 1}, {0, 5}} {
			rest := must(t)(moves.Ravel(must(t)(moves.Grid(vector(l...), a))))
			size := number(int64(len(a.Cells)))
			for len(rest.Cells) > len(a.Cells) {
				is(t, "cells of grid", must(t)(moves.Take(size, rest)), api.OK, a, api.OK)
				rest = must(t)(moves.Drop(size, rest))
			}
			want := must(t)(moves.Take(number(int64(len(rest.Cells))), a))
			is(t, "the last cells of grid", rest, api.OK, want, api.OK)
		}
	}
}
