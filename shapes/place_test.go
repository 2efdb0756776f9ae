package shapes_test

import (
	"math"
	"slices"
	"testing"

	"invigilator/api"
	"invigilator/shapes"
)

// P5.2: Place and Index.

func TestPlace(t *testing.T) {
	vector, matrix := shape{1, lengths{5, 0}}, shape{2, lengths{3, 4}}
	for _, x := range []struct {
		s     shape
		index lengths
		want  int
		e     api.Errno
	}{
		{matrix, lengths{1, 2}, 6, api.OK},
		{matrix, lengths{0, 0}, 0, api.OK},
		{matrix, lengths{2, 3}, 11, api.OK},
		{matrix, lengths{1, 4}, 0, api.ErrNone},
		{matrix, lengths{3, 0}, 0, api.ErrNone},
		{matrix, lengths{-1, 5}, 0, api.ErrNone}, // it would be before a cell
		{matrix, lengths{1, -1}, 0, api.ErrNone},
		{matrix, lengths{0, 6}, 0, api.ErrNone},
		{vector, lengths{4, 0}, 4, api.OK},
		{vector, lengths{5, 0}, 0, api.ErrNone},
		{vector, lengths{-1, 0}, 0, api.ErrNone},
		{vector, lengths{0, 1}, 0, api.ErrNone},
		{vector, lengths{2, -1}, 0, api.ErrNone},
		{scalar, lengths{0, 0}, 0, api.OK},
		{scalar, lengths{1, 0}, 0, api.ErrNone},
		{scalar, lengths{0, 1}, 0, api.ErrNone},
		{scalar, lengths{-1, 0}, 0, api.ErrNone},
		{scalar, lengths{0, -1}, 0, api.ErrNone},
		{shape{1, lengths{0, 0}}, lengths{0, 0}, 0, api.ErrNone},
		{shape{2, lengths{0, 7}}, lengths{0, 0}, 0, api.ErrNone},
		{shape{2, lengths{7, 0}}, lengths{0, 0}, 0, api.ErrNone},
		{shape{2, lengths{20, 20}}, lengths{19, 19}, 399, api.OK},
		{shape{2, lengths{400, 1}}, lengths{399, 0}, 399, api.OK},
		{shape{2, lengths{1, 400}}, lengths{0, 399}, 399, api.OK},
	} {
		if place, e := shapes.Place(x.s.rank, x.s.lens, x.index); place != x.want || e != x.e {
			t.Errorf("Place in %v of %v: %d, %d, want %d, %d", x.s, x.index, place, e, x.want, x.e)
		}
	}
}

// TestPlaceOfNoCells asks for all indices around small shapes, and for some that are far from them.
func TestPlaceOfNoCells(t *testing.T) {
	for _, s := range someShapes() {
		cells := indices(s)
		ask := func(index lengths) {
			want, f := slices.Index(cells, index), api.OK
			if want < 0 {
				want, f = 0, api.ErrNone
			}
			if place, e := shapes.Place(s.rank, s.lens, index); place != want || e != f {
				t.Errorf("Place in %v of %v: %d, %d, want %d, %d", s, index, place, e, want, f)
			}
		}
		for i := -2; i < 10; i++ {
			for j := -2; j < 10; j++ {
				ask(lengths{i, j})
			}
		}
		for _, i := range edges {
			for _, j := range edges {
				ask(lengths{i, j})
			}
		}
	}
}

func TestIndex(t *testing.T) {
	vector, matrix := shape{1, lengths{5, 0}}, shape{2, lengths{3, 4}}
	for _, x := range []struct {
		s     shape
		place int
		want  lengths
		e     api.Errno
	}{
		{matrix, 6, lengths{1, 2}, api.OK},
		{matrix, 0, lengths{0, 0}, api.OK},
		{matrix, 3, lengths{0, 3}, api.OK},
		{matrix, 4, lengths{1, 0}, api.OK},
		{matrix, 11, lengths{2, 3}, api.OK},
		{matrix, 12, none, api.ErrNone},
		{matrix, -1, none, api.ErrNone},
		{matrix, math.MaxInt, none, api.ErrNone},
		{matrix, math.MinInt, none, api.ErrNone},
		{vector, 4, lengths{4, 0}, api.OK},
		{vector, 5, none, api.ErrNone},
		{vector, -1, none, api.ErrNone},
		{scalar, 0, lengths{0, 0}, api.OK},
		{scalar, 1, none, api.ErrNone},
		{scalar, -1, none, api.ErrNone},
		{shape{1, lengths{0, 0}}, 0, none, api.ErrNone},
		{shape{2, lengths{0, 7}}, 0, none, api.ErrNone},
		{shape{2, lengths{7, 0}}, 0, none, api.ErrNone},
		{shape{2, lengths{0, 0}}, 0, none, api.ErrNone},
		{shape{2, lengths{20, 20}}, 399, lengths{19, 19}, api.OK},
		{shape{2, lengths{20, 20}}, 400, none, api.ErrNone},
	} {
		if index, e := shapes.Index(x.s.rank, x.s.lens, x.place); index != x.want || e != x.e {
			t.Errorf("Index in %v of %d: %v, %d, want %v, %d", x.s, x.place, index, e, x.want, x.e)
		}
	}
}

// TestIndexOfNoCells asks for the places next to those of the cells, and for some that are far from them.
func TestIndexOfNoCells(t *testing.T) {
	for _, s := range everyShape() {
		n := len(indices(s))
		for _, place := range []int{n, n + 1, 2 * n, -1, -n, 401, math.MaxInt, math.MinInt, 1 << 32, 1<<32 + 1} {
			if 0 <= place && place < n {
				continue
			}
			if index, e := shapes.Index(s.rank, s.lens, place); index != none || e != api.ErrNone {
				t.Errorf("Index in %v of %d: %v, %d", s, place, index, e)
			}
		}
	}
}

// P5.6: places and indices.

// TestPlacesAndIndices goes through all cells of all shapes: their places are 0, 1 and so on, in the order of their indices.
func TestPlacesAndIndices(t *testing.T) {
	for _, s := range everyShape() {
		for want, index := range indices(s) {
			place, e := shapes.Place(s.rank, s.lens, index)
			if place != want || e != api.OK {
				t.Errorf("Place in %v of %v: %d, %d, want %d", s, index, place, e, want)
			}
			back, e := shapes.Index(s.rank, s.lens, place)
			if back != index || e != api.OK {
				t.Errorf("Index in %v of %d: %v, %d, want %v", s, place, back, e, index)
			}
		}
	}
}

func TestPlacesAscendAsIndices(t *testing.T) {
	for _, s := range someShapes() {
		n, _ := shapes.Cells(s.rank, s.lens)
		last := lengths{-1, 0}
		for place := range n {
			index, e := shapes.Index(s.rank, s.lens, place)
			if slices.Compare(last[:], index[:]) >= 0 || e != api.OK {
				t.Errorf("Index in %v of %d: %v, %d, after %v", s, place, index, e, last)
			}
			last = index
		}
		if index, e := shapes.Index(s.rank, s.lens, n); index != none || e != api.ErrNone {
			t.Errorf("Index in %v of %d: %v, %d", s, n, index, e)
		}
	}
}
