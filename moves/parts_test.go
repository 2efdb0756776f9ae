package moves_test

import (
	"math"
	"slices"
	"testing"

	"invigilator/api"
	"invigilator/moves"
	"invigilator/shapes"
)

// P7.2: Take and Drop.

// part returns the vector of the cells that take of n takes, or of the others. A place from the end on is below 0, as n is then.
func part(n, v api.Array, isTaken bool) (api.Array, api.Errno) {
	b := api.Array{Kind: v.Kind, Rank: 1}
	for i, cell := range v.Cells {
		takes := int64(i) < n.Cells[0]
		if n.Cells[0] < 0 {
			takes = int64(i-len(v.Cells)) >= n.Cells[0]
		}
		if takes == isTaken {
			b.Cells = append(b.Cells, cell)
		}
	}
	b.Lens[0] = len(b.Cells)
	return b, api.OK
}

func taken(n, v api.Array) (api.Array, api.Errno)   { return part(n, v, true) }
func dropped(n, v api.Array) (api.Array, api.Errno) { return part(n, v, false) }

func TestTakeAndDrop(t *testing.T) {
	for _, x := range []struct {
		n          int64
		v          api.Array
		take, drop api.Array
	}{
		{2, v, vector(1, 2), vector(3)},
		{-2, v, vector(2, 3), vector(1)},
		{9, v, v, vector()},
		{-9, v, v, vector()},
		{1, v, vector(1), vector(2, 3)},
		{-1, v, vector(3), vector(1, 2)},
		{3, v, v, vector()},
		{-3, v, v, vector()},
		{4, v, v, vector()},
		{-4, v, v, vector()},
		{0, v, vector(), v},
		{0, vector(), vector(), vector()},
		{1, vector(), vector(), vector()},
		{-1, vector(), vector(), vector()},
		{401, v, v, vector()},
		{math.MaxInt64, v, v, vector()},
		{math.MinInt64, v, v, vector()},
		{math.MinInt64 + 1, v, v, vector()},
		{1 << 32, v, v, vector()},
		{-1 << 32, v, v, vector()},
		{2, text(65, 66, 67), text(65, 66), text(67)},
		{-2, text(65, 66, 67), text(66, 67), text(65)},
		{0, text(65), text(), text(65)},
		{math.MinInt64, text(), text(), text()},
	} {
		a, e := moves.Take(number(x.n), x.v)
		is(t, "Take", a, e, x.take, api.OK)
		a, e = moves.Drop(number(x.n), x.v)
		is(t, "Drop", a, e, x.drop, api.OK)
	}
}

// TestTakeAndDropOfAll goes through the numbers of cells that vectors have, and through numbers far from them.
func TestTakeAndDropOfAll(t *testing.T) {
	for _, a := range someArrays() {
		if a.Rank != 1 {
			continue
		}
		eachNumber(func(n int64) {
			for _, p := range prims() {
				if p.name == "Take" || p.name == "Drop" {
					ask(t, p, number(n), a)
				}
			}
		})
	}
}

func eachNumber(do func(n int64)) {
	for n := int64(-410); n <= 410; n++ {
		do(n)
	}
	for _, n := range farInts {
		do(n)
	}
}

// P7.4: Cat.

func joined(a, b api.Array) (api.Array, api.Errno) {
	last := a.Rank - 1
	if a.Rank == 2 && a.Lens[0] != b.Lens[0] {
		return api.Array{}, api.ErrLength
	}
	c := api.Array{Kind: a.Kind, Rank: a.Rank, Lens: a.Lens}
	c.Lens[last] += b.Lens[last]
	if len(a.Cells)+len(b.Cells) > 400 || c.Lens[last] > 400 {
		return api.Array{}, api.ErrCells
	}
	for place := range len(a.Cells) + len(b.Cells) {
		at, _ := shapes.Index(c.Rank, c.Lens, place)
		of, size := a, a.Lens[last]
		if at[last] >= size {
			at[last] -= size
			of = b
		}
		from, _ := shapes.Place(of.Rank, of.Lens, at)
		c.Cells = append(c.Cells, of.Cells[from])
	}
	return c, api.OK
}

func TestCat(t *testing.T) {
	zeros := func(a, b int) api.Array { return ints(2, pair{a, b}, make([]int64, a*b)...) }
	for _, x := range []struct {
		a, b, want api.Array
		e          api.Errno
	}{
		{v, v, vector(1, 2, 3, 1, 2, 3), api.OK},
		{v, vector(7), vector(1, 2, 3, 7), api.OK},
		{vector(7), v, vector(7, 1, 2, 3), api.OK},
		{v, vector(), v, api.OK},
		{vector(), v, v, api.OK},
		{vector(), vector(), vector(), api.OK},
		{text(65), text(66, 67), text(65, 66, 67), api.OK},
		{text(), text(), text(), api.OK},
		{m, ints(2, pair{2, 1}, 7, 8), ints(2, pair{2, 4}, 1, 2, 3, 7, 4, 5, 6, 8), api.OK},
		{ints(2, pair{2, 1}, 7, 8), m, ints(2, pair{2, 4}, 7, 1, 2, 3, 8, 4, 5, 6), api.OK},
		{m, zeros(2, 0), m, api.OK},
		{zeros(2, 0), m, m, api.OK},
		{chars(2, pair{2, 1}, 65, 66), chars(2, pair{2, 1}, 67, 68), chars(2, pair{2, 2}, 65, 67, 66, 68), api.OK},
		{zeros(0, 7), zeros(0, 3), zeros(0, 10), api.OK},
		{zeros(7, 0), zeros(7, 0), zeros(7, 0), api.OK},
		{zeros(0, 0), zeros(0, 0), zeros(0, 0), api.OK},
		{m, ints(2, pair{1, 1}, 7), api.Array{}, api.ErrLength},
		{ints(2, pair{1, 1}, 7), m, api.Array{}, api.ErrLength},
		{m, ints(2, pair{3, 2}, 1, 2, 3, 4, 5, 6), api.Array{}, api.ErrLength},
		{m, zeros(0, 0), api.Array{}, api.ErrLength},
		{zeros(7, 0), zeros(6, 0), api.Array{}, api.ErrLength},
		{zeros(20, 20), zeros(19, 20), api.Array{}, api.ErrLength}, // before too many cells
		{zeros(0, 400), zeros(1, 400), api.Array{}, api.ErrLength},
		{vector(make([]int64, 200)...), vector(make([]int64, 200)...), vector(make([]int64, 400)...), api.OK},
		{vector(make([]int64, 400)...), vector(), vector(make([]int64, 400)...), api.OK},
		{vector(make([]int64, 400)...), vector(1), api.Array{}, api.ErrCells},
		{vector(make([]int64, 200)...), vector(make([]int64, 201)...), api.Array{}, api.ErrCells},
		{vector(make([]int64, 400)...), vector(make([]int64, 400)...), api.Array{}, api.ErrCells},
		{zeros(20, 10), zeros(20, 10), zeros(20, 20), api.OK},
		{zeros(20, 10), zeros(20, 11), api.Array{}, api.ErrCells},
		{zeros(400, 1), zeros(400, 0), zeros(400, 1), api.OK},
		{zeros(400, 1), zeros(400, 1), api.Array{}, api.ErrCells},
		{zeros(1, 200), zeros(1, 201), api.Array{}, api.ErrCells},
		{zeros(0, 200), zeros(0, 200), zeros(0, 400), api.OK},
		{zeros(0, 200), zeros(0, 201), api.Array{}, api.ErrCells}, // no cells, but 401 columns
		{zeros(0, 400), zeros(0, 400), api.Array{}, api.ErrCells},
	} {
		a, e := moves.Cat(x.a, x.b)
		is(t, "Cat", a, e, x.want, x.e)
	}
}

// P7.6: parts.

func TestCatOfParts(t *testing.T) {
	for _, a := range someArrays() {
		if a.Rank != 1 {
			continue
		}
		eachNumber(func(n int64) {
			first := must(t)(moves.Take(number(n), a))
			second := must(t)(moves.Drop(number(n), a))
			if n < 0 {
				first, second = second, first
			}
			is(t, "Cat of take and drop", must(t)(moves.Cat(first, second)), api.OK, a, api.OK)
		})
	}
}

// small has vectors and matrices of both kinds that are small enough to be put together.
func small() []api.Array {
	return slices.DeleteFunc(someArrays(), func(a api.Array) bool {
		return a.Rank == 0 || len(a.Cells) > 12 || max(a.Lens[0], a.Lens[1]) > 100
	})
}

func TestPartsOfCat(t *testing.T) {
	for _, a := range small() {
		for _, b := range small() {
			ab, e := moves.Cat(a, b)
			if a.Rank != 1 || e != api.OK {
				continue
			}
			n := number(int64(len(a.Cells)))
			is(t, "Take of cat", must(t)(moves.Take(n, ab)), api.OK, a, api.OK)
			is(t, "Drop of cat", must(t)(moves.Drop(n, ab)), api.OK, b, api.OK)
		}
	}
}

func TestCatOfThree(t *testing.T) {
	for _, a := range small() {
		for _, b := range small() {
			ab, e := moves.Cat(a, b)
			if e != api.OK {
				continue
			}
			ba := must(t)(moves.Cat(must(t)(moves.Reverse(b)), must(t)(moves.Reverse(a))))
			is(t, "Reverse of cat", must(t)(moves.Reverse(ab)), api.OK, ba, api.OK)
			for _, c := range small() {
				bc, e := moves.Cat(b, c)
				if e != api.OK {
					continue
				}
				is(t, "Cat of cat", must(t)(moves.Cat(ab, c)), api.OK, must(t)(moves.Cat(a, bc)), api.OK)
			}
		}
	}
}
