package finds_test

import (
	"math"
	"slices"
	"testing"

	"invigilator/api"
	"invigilator/finds"
	"invigilator/moves"
)

// P8.2: At and In.

func looked(v, i api.Array) (api.Array, api.Errno) {
	b := api.Array{Kind: v.Kind, Rank: i.Rank, Lens: i.Lens}
	for _, wanted := range i.Cells {
		found := false
		for place, cell := range v.Cells {
			if int64(place) == wanted {
				found = true
				b.Cells = append(b.Cells, cell)
			}
		}
		if !found {
			return api.Array{}, api.ErrIndex
		}
	}
	return b, api.OK
}

func marked(a, v api.Array) (api.Array, api.Errno) {
	b := api.Array{Kind: api.KInt, Rank: a.Rank, Lens: a.Lens}
	for _, cell := range a.Cells {
		mark := int64(0)
		if slices.Contains(v.Cells, cell) {
			mark = 1
		}
		b.Cells = append(b.Cells, mark)
	}
	return b, api.OK
}

// lists calls do with all lists of numbers from least to most that have a given length.
func lists(length int, least, most int64, do func(l []int64)) {
	l := slices.Repeat([]int64{least}, length)
	for {
		do(slices.Clone(l))
		at := slices.IndexFunc(l, func(n int64) bool { return n < most })
		if at < 0 {
			return
		}
		l[at]++
		for i := range at {
			l[i] = least
		}
	}
}

func TestAt(t *testing.T) {
	for _, x := range []struct {
		v, i, want api.Array
		e          api.Errno
	}{
		{v, number(1), number(3), api.OK},
		{v, vector(3, 0), vector(1, 5), api.OK},
		{v, number(4), api.Array{}, api.ErrIndex},
		{v, number(0), number(5), api.OK},
		{v, number(3), number(1), api.OK},
		{v, number(-1), api.Array{}, api.ErrIndex},
		{v, vector(1), vector(3), api.OK},
		{v, vector(), vector(), api.OK},
		{v, vector(2, 2, 1, 2, 0, 0), vector(5, 5, 3, 5, 5, 5), api.OK},
		{v, vector(0, 1, 4), api.Array{}, api.ErrIndex},
		{v, vector(4, 1, 0), api.Array{}, api.ErrIndex},
		{v, vector(0, -1, 0), api.Array{}, api.ErrIndex},
		{text(65, 66), number(1), letter(66), api.OK},
		{text(65, 66), vector(1, 1, 0), text(66, 66, 65), api.OK},
		{text(65, 66), vector(), text(), api.OK},
		{text(65, 66), number(2), api.Array{}, api.ErrIndex},
		{vector(), vector(), vector(), api.OK},
		{text(), vector(), text(), api.OK},
		{vector(), number(0), api.Array{}, api.ErrIndex},
		{vector(), vector(0), api.Array{}, api.ErrIndex},
		{vector(math.MinInt64), number(0), number(math.MinInt64), api.OK},
		{counted(400), number(399), number(399), api.OK},
		{counted(400), number(400), api.Array{}, api.ErrIndex},
		{v, vector(slices.Repeat([]int64{2}, 400)...), vector(slices.Repeat([]int64{5}, 400)...), api.OK},
		{v, vector(append(slices.Repeat([]int64{2}, 399), 4)...), api.Array{}, api.ErrIndex},
	} {
		a, e := finds.At(x.v, x.i)
		is(t, "At", a, e, x.want, x.e)
	}
	for _, n := range farInts {
		for _, i := range []api.Array{number(n), vector(n), vector(0, n), vector(n, 0)} {
			a, e := finds.At(v, i)
			is(t, "At of a far place", a, e, api.Array{}, api.ErrIndex)
		}
	}
}

// TestAtOfAll compares At with the table for all lists of places of short vectors, and places beside them.
func TestAtOfAll(t *testing.T) {
	for _, a := range []api.Array{vector(), vector(7), vector(8, 7), vector(9, 8, 9), text(), text(66), text(65, 67, 66)} {
		for length := range 5 {
			lists(length, -1, int64(len(a.Cells)), func(l []int64) {
				want, f := looked(a, vector(l...))
				b, e := finds.At(a, vector(l...))
				is(t, "At", b, e, want, f)
			})
		}
	}
}

func TestIn(t *testing.T) {
	for _, x := range []struct{ a, v, want api.Array }{
		{v, vector(5, 9), vector(1, 0, 1, 0)},
		{number(5), v, number(1)},
		{number(9), v, number(0)},
		{letter(65), text(66, 65), number(1)},
		{letter(67), text(66, 65), number(0)},
		{m, vector(2, 6, 7), ints(2, pair{2, 3}, 0, 1, 0, 0, 0, 1)},
		{chars(2, pair{2, 1}, 65, 66), text(66), ints(2, pair{2, 1}, 0, 1)},
		{v, vector(), vector(0, 0, 0, 0)},
		{number(0), vector(), number(0)},
		{number(0), vector(1, 2), number(0)},
		{number(0), vector(1, 0), number(1)},
		{vector(), v, vector()},
		{text(), text(), vector()},
		{ints(2, pair{0, 7}), v, ints(2, pair{0, 7})},
		{chars(2, pair{7, 0}), text(65), ints(2, pair{7, 0})},
		{v, vector(5, 5, 5), vector(1, 0, 1, 0)},
		{vector(math.MinInt64, math.MaxInt64, -1), vector(math.MaxInt64, math.MinInt64), vector(1, 1, 0)},
		{vector(1, 1<<32+1, -1<<32+1), vector(1<<32 + 1), vector(0, 1, 0)}, // they are equal in 32 bits
		{vector(5, -5), vector(-5), vector(0, 1)},
		{counted(400), counted(199), vector(slices.Concat(slices.Repeat([]int64{1}, 199), make([]int64, 201))...)},
	} {
		a, e := finds.In(x.a, x.v)
		is(t, "In", a, e, x.want, api.OK)
	}
}

// TestInOfAll compares In with the table for all pairs of short vectors of three numbers.
func TestInOfAll(t *testing.T) {
	for long := range 4 {
		for short := range 4 {
			lists(long, -1, 1, func(l []int64) {
				lists(short, -1, 1, func(k []int64) {
					want, f := marked(vector(l...), vector(k...))
					a, e := finds.In(vector(l...), vector(k...))
					is(t, "In", a, e, want, f)
				})
			})
		}
	}
}

// P8.5: places.

func TestAtOfIota(t *testing.T) {
	for _, a := range someVectors() {
		i := must(t)(finds.Iota(number(int64(len(a.Cells)))))
		b, e := finds.At(a, i)
		is(t, "At of iota", b, e, a, api.OK)
	}
}

func TestAtOfAt(t *testing.T) {
	for _, a := range []api.Array{v, text(65, 66, 67), vector(7)} {
		for length := range 4 {
			lists(length, 0, int64(len(a.Cells)-1), func(l []int64) {
				i := vector(l...)
				first := must(t)(finds.At(a, i))
				lists(3, -1, int64(length), func(k []int64) {
					sameAt(t, a, i, first, vector(k...))
					sameAt(t, a, i, first, number(k[0]))
				})
			})
		}
	}
}

// sameAt compares at j of first, which is at i of a, with at of a and j looked up in i.
func sameAt(t *testing.T, a, i, first, j api.Array) {
	t.Helper()
	b, e := finds.At(first, j)
	places, f := finds.At(i, j)
	want := api.Array{}
	if f == api.OK {
		want = must(t)(finds.At(a, places))
	}
	is(t, "At of at", b, e, want, f)
}

func TestInOfSelf(t *testing.T) {
	for _, a := range someVectors() {
		b, e := finds.In(a, a)
		is(t, "In of itself", b, e, vector(slices.Repeat([]int64{1}, len(a.Cells))...), api.OK)
	}
}

func TestInOfCat(t *testing.T) {
	for _, a := range someArrays() {
		for _, b := range someVectors() {
			for _, c := range someVectors() {
				if a.Kind != b.Kind || b.Kind != c.Kind || len(b.Cells)+len(c.Cells) > 400 {
					continue
				}
				first, second := must(t)(finds.In(a, b)), must(t)(finds.In(a, c))
				either := first
				for i, mark := range second.Cells {
					either.Cells[i] |= mark
				}
				d, e := finds.In(a, must(t)(moves.Cat(b, c)))
				is(t, "In of cat", d, e, either, api.OK)
			}
		}
	}
}
