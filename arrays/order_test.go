package arrays_test

import (
	"cmp"
	"math"
	"slices"
	"testing"

	"invigilator/api"
	"invigilator/arrays"
	"invigilator/shapes"
)

// ascending has arrays in their order, none of them twice: by kind, rank and lengths, and the cells of each shape by the first one in which they differ.
func ascending() []api.Array {
	values := map[int][]int64{
		api.KInt:  {math.MinInt64, -1 << 32, -2, -1, 0, 1, 2, 1 << 32, math.MaxInt64},
		api.KChar: {0, 1, 97, 255, 256, 0xD7FF, 0xE000, 0x10FFFF},
	}
	var list []api.Array
	add := func(kind, rank int, lens pair) {
		many, _ := shapes.Cells(rank, lens)
		of := values[kind]
		if many > 1 {
			of = []int64{of[0], of[2], of[len(of)-1]}
		}
		for _, cells := range cellsOf(many, of) {
			list = append(list, api.Array{Kind: kind, Rank: rank, Lens: lens, Cells: cells})
		}
	}
	for _, kind := range []int{api.KInt, api.KChar} {
		add(kind, 0, pair{})
		for n := range 4 {
			add(kind, 1, pair{n, 0})
		}
		for _, lens := range []pair{{0, 0}, {0, 1}, {0, 400}, {1, 0}, {1, 1}, {1, 2}, {1, 3}, {2, 0}, {2, 1}, {3, 1}, {400, 0}} {
			add(kind, 2, lens)
		}
	}
	return list
}

// cellsOf returns all lists of so many of the values, ascending.
func cellsOf(many int, values []int64) [][]int64 {
	if many == 0 {
		return [][]int64{nil}
	}
	var list [][]int64
	for _, v := range values {
		for _, rest := range cellsOf(many-1, values) {
			list = append(list, append([]int64{v}, rest...))
		}
	}
	return list
}

// variants has what differs from an array in its kind, rank or one length alone; most of it is no array.
func variants(a api.Array) []api.Array {
	var list []api.Array
	for _, by := range []int{1, -1, math.MinInt} {
		kind, rank, first, second := a, a, a, a
		kind.Kind += by
		rank.Rank += by
		first.Lens[0] += by
		second.Lens[1] += by
		list = append(list, kind, rank, first, second)
	}
	return list
}

// P6.5: Same, Like and Compare.

func TestSameAndLike(t *testing.T) {
	ask := func(a, b api.Array, same, like bool) {
		t.Helper()
		check := kept(t, a, b)
		if got := arrays.Same(a, b); got != same {
			t.Errorf("Same of %v and %v: %t", a, b, got)
		}
		if got := arrays.Like(a, b); got != like {
			t.Errorf("Like of %v and %v: %t", a, b, got)
		}
		check()
	}
	list := someArrays()
	for _, x := range badArrays { // they compare parts, whether these are an array's or not
		list = append(list, x.a)
	}
	for _, a := range list {
		b := a
		b.Cells = slices.Clone(a.Cells)
		ask(a, b, true, true)
		for i := range a.Cells {
			b.Cells[i] ^= 1
			ask(a, b, false, true)
			ask(b, a, false, true)
			b.Cells[i] ^= 1
		}
		for _, cells := range [][]int64{append(slices.Clone(a.Cells), 0), a.Cells[:max(0, len(a.Cells)-1)]} {
			b.Cells = cells
			ask(a, b, len(a.Cells) == len(cells), true)
			ask(b, a, len(a.Cells) == len(cells), true)
		}
		for _, c := range variants(a) {
			ask(a, c, false, false)
			ask(c, a, false, false)
		}
	}
	ask(ints(1, pair{0, 0}), ints(1, pair{0, 0}, []int64{}...), true, true)
	ask(api.Array{}, api.Array{Cells: []int64{}}, true, true)
	ask(ints(2, pair{2, 3}, repeat(6, 1)...), ints(2, pair{3, 2}, repeat(6, 1)...), false, false)
	ask(ints(2, pair{0, 7}), ints(2, pair{7, 0}), false, false)
	ask(ints(0, pair{}, 65), chars(0, pair{}, 65), false, false)
	ask(ints(0, pair{}, 5), ints(1, pair{1, 0}, 5), false, false)
}

func TestCompare(t *testing.T) {
	vector := func(cells ...int64) api.Array { return ints(1, pair{len(cells), 0}, cells...) }
	for _, x := range []struct {
		a, b api.Array
		want int
	}{
		{ints(0, pair{}, 5), vector(1), -1},
		{vector(1, 2), vector(1, 3), -1},
		{vector(1, 2), vector(1, 2), 0},
		{vector(9), vector(1, 2), -1},
		{vector(), vector(math.MinInt64), -1},
		{vector(math.MinInt64), vector(math.MaxInt64), -1},
		{vector(-1), vector(0), -1},
		{vector(1, 9), vector(2, 0), -1},
		{ints(2, pair{0, 0}), vector(1), 1},
		{ints(2, pair{2, 1}, 5, 5), ints(2, pair{1, 2}, 9, 9), 1},
		{ints(2, pair{1, 3}, 1, 1, 1), ints(2, pair{1, 2}, 9, 9), 1},
		{chars(0, pair{}, 0), ints(2, pair{400, 1}, repeat(400, 9)...), 1},
		{chars(0, pair{}, 65), ints(0, pair{}, 65), 1},
		{chars(1, pair{1, 0}, 97), chars(1, pair{1, 0}, 233), -1},
	} {
		if got, e := arrays.Compare(x.a, x.b); got != x.want || e != api.OK {
			t.Errorf("Compare of %v and %v: %d, %d, want %d", x.a, x.b, got, e, x.want)
		}
		if got, e := arrays.Compare(x.b, x.a); got != -x.want || e != api.OK {
			t.Errorf("Compare of %v and %v: %d, %d, want %d", x.b, x.a, got, e, -x.want)
		}
	}
}

func TestCompareOfNoArrays(t *testing.T) {
	fails := func(a, b api.Array, want api.Errno) {
		t.Helper()
		check := kept(t, a, b)
		if got, e := arrays.Compare(a, b); got != 0 || e != want {
			t.Errorf("Compare of %v and %v: %d, %d, want %d", a, b, got, e, want)
		}
		check()
	}
	for _, x := range badArrays {
		for _, a := range []api.Array{ints(0, pair{}, 5), chars(0, pair{}, 65), ints(2, pair{0, 7})} {
			fails(x.a, a, x.e)
			fails(a, x.a, x.e)
		}
		for _, y := range badArrays { // the first one comes first, also if both are the same
			fails(x.a, y.a, x.e)
		}
	}
}

// P6.7: an order.

// TestCompareOfAll compares all pairs of arrays that are listed in their order: so Compare is an order of them.
func TestCompareOfAll(t *testing.T) {
	list := ascending()
	check := kept(t, list...)
	for i, a := range list {
		if e := arrays.Check(a); e != api.OK {
			t.Errorf("Check of %v: %d", a, e)
		}
		for j, b := range list {
			got, e := arrays.Compare(a, b)
			if got != cmp.Compare(i, j) || e != api.OK {
				t.Errorf("Compare of %v and %v: %d, %d, want %d", a, b, got, e, cmp.Compare(i, j))
			}
			if arrays.Same(a, b) != (got == 0) {
				t.Errorf("Same of %v and %v: %t", a, b, arrays.Same(a, b))
			}
		}
	}
	check()
}

// TestCompareOfLongOnes finds the cell in which two arrays of many cells differ, wherever it is, and whatever comes after it.
func TestCompareOfLongOnes(t *testing.T) {
	for _, kind := range []int{api.KInt, api.KChar} {
		for _, lens := range []pair{{20, 20}, {1, 400}, {400, 1}} {
			for at := range 400 {
				a := api.Array{Kind: kind, Rank: 2, Lens: lens, Cells: append(repeat(at, 97), repeat(400-at, 99)...)}
				b := a
				b.Cells = append(repeat(at, 97), repeat(400-at, 0)...)
				b.Cells[at] = 100
				if got, e := arrays.Compare(a, b); got != -1 || e != api.OK {
					t.Errorf("Compare with a difference at %d: %d, %d", at, got, e)
				}
				if got, e := arrays.Compare(b, a); got != 1 || e != api.OK {
					t.Errorf("Compare with a difference at %d, turned round: %d, %d", at, got, e)
				}
			}
		}
	}
}
