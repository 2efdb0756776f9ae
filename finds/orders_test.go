package finds_test

import (
	"math"
	"slices"
	"testing"

	"invigilator/api"
	"invigilator/finds"
)

// P8.3: Pick and Grade.

func picked(m, v api.Array) (api.Array, api.Errno) {
	if len(m.Cells) != len(v.Cells) {
		return api.Array{}, api.ErrLength
	}
	b := api.Array{Kind: v.Kind, Rank: 1}
	for i := range m.Cells {
		if m.Cells[i] != 0 {
			b.Lens[0]++
			b.Cells = append(b.Cells, v.Cells[i])
		}
	}
	return b, api.OK
}

// graded puts each place where it belongs: behind as many as come before it.
func graded(v api.Array) (api.Array, api.Errno) {
	b := vector(make([]int64, len(v.Cells))...)
	for place, cell := range v.Cells {
		before := 0
		for i, other := range v.Cells {
			if other < cell || other == cell && i < place {
				before++
			}
		}
		b.Cells[before] = int64(place)
	}
	return b, api.OK
}

func TestPick(t *testing.T) {
	for _, x := range []struct {
		m, v, want api.Array
		e          api.Errno
	}{
		{vector(1, 0, 7, 0), v, vector(5, 5), api.OK},
		{vector(1), v, api.Array{}, api.ErrLength},
		{vector(0, 1, 0, -1), v, vector(3, 1), api.OK},
		{vector(0, 0, 0, 0), v, vector(), api.OK},
		{vector(1, 1, 1, 1), v, v, api.OK},
		{vector(math.MinInt64, 1<<32, 1<<62, 256), v, v, api.OK}, // all are 0 in fewer bits
		{vector(0, 1), text(65, 66), text(66), api.OK},
		{vector(0, 0), text(65, 66), text(), api.OK},
		{vector(), vector(), vector(), api.OK},
		{vector(), text(), text(), api.OK},
		{vector(), v, api.Array{}, api.ErrLength},
		{v, vector(), api.Array{}, api.ErrLength},
		{vector(1, 0, 7, 0, 0), v, api.Array{}, api.ErrLength},
		{vector(1, 0, 7), v, api.Array{}, api.ErrLength},
		{vector(0), text(65, 66), api.Array{}, api.ErrLength},
		{vector(slices.Repeat([]int64{2}, 400)...), counted(400), counted(400), api.OK},
		{counted(400), vector(slices.Repeat([]int64{2}, 400)...), vector(slices.Repeat([]int64{2}, 399)...), api.OK},
	} {
		a, e := finds.Pick(x.m, x.v)
		is(t, "Pick", a, e, x.want, x.e)
	}
}

// TestPickOfAll compares Pick with the table for all short masks, beside vectors of the same and of other lengths.
func TestPickOfAll(t *testing.T) {
	for length := range 6 {
		lists(length, -1, 1, func(l []int64) {
			for _, a := range []api.Array{vector(), vector(8), v, text(65, 66), text(67, 65, 66), vector(9, 8, 7, 8, 9)} {
				want, f := picked(vector(l...), a)
				b, e := finds.Pick(vector(l...), a)
				is(t, "Pick", b, e, want, f)
			}
		})
	}
}

func TestGrade(t *testing.T) {
	for _, x := range []struct{ v, want api.Array }{
		{v, vector(3, 1, 0, 2)},
		{vector(), vector()},
		{vector(7), vector(0)},
		{vector(2, 1), vector(1, 0)},
		{vector(1, 2), vector(0, 1)},
		{vector(4, 4, 4), vector(0, 1, 2)},
		{vector(3, 1, 3, 1, 2), vector(1, 3, 4, 0, 2)},
		{vector(0, -1, -2), vector(2, 1, 0)},
		{vector(math.MaxInt64, math.MinInt64, 0, -1, math.MinInt64, math.MaxInt64), vector(1, 4, 3, 2, 0, 5)}, // their differences are beyond 64 bits
		{vector(1<<32, 1, -1<<32, 2), vector(2, 1, 3, 0)},
		{counted(400), counted(400)},
		{vector(slices.Repeat([]int64{-3}, 400)...), counted(400)},
	} {
		a, e := finds.Grade(x.v)
		is(t, "Grade", a, e, x.want, api.OK)
	}
}

// someGraded calls do with all short vectors of a few numbers, and some long ones with many equal cells.
func someGraded(do func(a api.Array)) {
	for length := range 7 {
		lists(length, 0, 2, func(l []int64) {
			for i := range l {
				l[i] = []int64{math.MinInt64, 5, math.MaxInt64}[l[i]]
			}
			do(vector(l...))
		})
	}
	for length := range 6 {
		lists(length, -2, 2, func(l []int64) { do(vector(l...)) })
	}
	for _, length := range []int{12, 13, 20, 21, 50, 399, 400} { // few are often sorted in another way than many
		for _, different := range []int{1, 2, 3, 10, 101} {
			a := counted(length)
			for i := range a.Cells {
				a.Cells[i] = int64(i * i * 31 % different)
			}
			do(a)
		}
	}
	for _, a := range someVectors() {
		if a.Kind == api.KInt {
			do(a)
		}
	}
}

func TestGradeOfAll(t *testing.T) {
	someGraded(func(a api.Array) {
		want, f := graded(a)
		b, e := finds.Grade(a)
		is(t, "Grade", b, e, want, f)
	})
}

// P8.4: order.

func TestOrder(t *testing.T) {
	someGraded(func(a api.Array) {
		many := len(a.Cells)
		order := must(t)(finds.Grade(a))
		sorted := must(t)(finds.At(a, order))
		if !slices.IsSorted(sorted.Cells) {
			t.Errorf("at of %v and grade does not ascend: %v", a, sorted)
		}
		if !slices.Equal(slices.Sorted(slices.Values(order.Cells)), counted(many).Cells) {
			t.Errorf("grade of %v has not each place once: %v", a, order)
		}
		for i := 1; i < many; i++ {
			if sorted.Cells[i-1] == sorted.Cells[i] && order.Cells[i-1] >= order.Cells[i] {
				t.Errorf("grade of %v has equal cells in another order: %v", a, order)
			}
		}
		b, e := finds.Grade(sorted)
		is(t, "Grade of what ascends", b, e, counted(many), api.OK)
		goals := must(t)(finds.Grade(order))
		b, e = finds.At(sorted, goals)
		is(t, "At of where each cell has gone", b, e, a, api.OK)
		b, e = finds.At(order, goals)
		is(t, "At of where each place has gone", b, e, counted(many), api.OK)
	})
}

// P8.6: choices.

func TestChoices(t *testing.T) {
	for _, a := range someVectors() {
		for _, mask := range someVectors() {
			if mask.Kind != api.KInt || len(mask.Cells) != len(a.Cells) {
				continue
			}
			b := must(t)(finds.Pick(mask, a))
			zeros := 0
			for _, n := range mask.Cells {
				if n == 0 {
					zeros++
				}
			}
			if len(b.Cells)+zeros != len(mask.Cells) {
				t.Errorf("Pick of %v has %d cells", mask, len(b.Cells))
			}
			chosen := must(t)(finds.Pick(mask, must(t)(finds.Iota(number(int64(len(a.Cells)))))))
			if !slices.IsSorted(chosen.Cells) {
				t.Errorf("Pick of iota is not in order: %v", chosen)
			}
			is(t, "At of pick of iota", must(t)(finds.At(a, chosen)), api.OK, b, api.OK)
		}
	}
}

func TestPickByIn(t *testing.T) {
	for _, a := range someVectors() {
		for _, b := range someVectors() {
			if a.Kind != b.Kind {
				continue
			}
			want := api.Array{Kind: a.Kind, Rank: 1}
			for _, cell := range a.Cells {
				if slices.Contains(b.Cells, cell) {
					want.Lens[0]++
					want.Cells = append(want.Cells, cell)
				}
			}
			c, e := finds.Pick(must(t)(finds.In(a, b)), a)
			is(t, "Pick by in", c, e, want, api.OK)
		}
	}
}
