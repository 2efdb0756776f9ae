package arrays_test

import (
	"math"
	"slices"
	"strings"
	"testing"

	"invigilator/api"
	"invigilator/arrays"
	"invigilator/shapes"
)

// farIndices has indices of no cell of any array, and some that small arrays do not have.
var farIndices = []pair{
	{-1, 0}, {0, -1}, {-1, -1}, {-1, 3}, {1, -1}, {400, 0}, {0, 400}, {400, 400},
	{math.MaxInt, 0}, {0, math.MaxInt}, {math.MinInt, 0}, {0, math.MinInt}, {math.MinInt, math.MaxInt}, {1 << 32, 0}, {0, 1 << 32}, {1 << 62, 4},
}

// eachIndex does something with the indices of an array's cells, by their places, and with -1 for indices of no cells.
func eachIndex(a api.Array, do func(place int, index pair)) {
	many := len(a.Cells)
	for place := range many {
		index, _ := shapes.Index(a.Rank, a.Lens, place)
		do(place, index)
	}
	ends := []pair{{a.Lens[0], 0}, {0, a.Lens[1]}, a.Lens, {a.Lens[0] - 1, a.Lens[1]}, {a.Lens[0], a.Lens[1] - 1}}
	if a.Rank == 0 {
		ends = []pair{{1, 0}, {0, 1}}
	}
	if a.Rank == 1 {
		ends = []pair{{a.Lens[0], 0}, {0, 1}, {a.Lens[0] - 1, 1}, {a.Lens[0] - 1, -1}}
	}
	for _, index := range append(ends, farIndices...) {
		do(-1, index)
	}
}

// P6.3: At and With.

func TestAt(t *testing.T) {
	matrix := ints(2, pair{2, 3}, 1, 2, 3, 4, 5, 6)
	for _, x := range []struct {
		a     api.Array
		index pair
		want  int64
		e     api.Errno
	}{
		{matrix, pair{0, 0}, 1, api.OK},
		{matrix, pair{0, 2}, 3, api.OK},
		{matrix, pair{1, 0}, 4, api.OK},
		{matrix, pair{1, 2}, 6, api.OK},
		{matrix, pair{2, 0}, 0, api.ErrNone},
		{matrix, pair{0, 3}, 0, api.ErrNone},
		{ints(1, pair{3, 0}, 5, 6, 7), pair{2, 0}, 7, api.OK},
		{ints(1, pair{3, 0}, 5, 6, 7), pair{0, 2}, 0, api.ErrNone},
		{chars(1, pair{2, 0}, 233, 33), pair{1, 0}, 33, api.OK},
		{ints(0, pair{}, math.MinInt64), pair{0, 0}, math.MinInt64, api.OK},
		{ints(0, pair{}, 5), pair{1, 0}, 0, api.ErrNone},
		{ints(1, pair{0, 0}), pair{0, 0}, 0, api.ErrNone},
		{ints(2, pair{0, 7}), pair{0, 0}, 0, api.ErrNone},
		{ints(2, pair{7, 0}), pair{0, 0}, 0, api.ErrNone},
	} {
		if v, e := arrays.At(x.a, x.index); v != x.want || e != x.e {
			t.Errorf("At of %v at %v: %d, %d, want %d, %d", x.a, x.index, v, e, x.want, x.e)
		}
	}
	for _, a := range someArrays() {
		check := kept(t, a)
		eachIndex(a, func(place int, index pair) {
			want, f := int64(0), api.ErrNone
			if place >= 0 {
				want, f = a.Cells[place], api.OK
			}
			if v, e := arrays.At(a, index); v != want || e != f {
				t.Errorf("At of %v at %v: %d, %d, want %d, %d", a, index, v, e, want, f)
			}
		})
		check()
	}
}

func TestWith(t *testing.T) {
	vector, text := ints(1, pair{3, 0}, 5, 6, 7), chars(1, pair{2, 0}, 97, 98)
	for _, x := range []struct {
		a     api.Array
		index pair
		v     int64
		want  api.Array
		e     api.Errno
	}{
		{vector, pair{1, 0}, 9, ints(1, pair{3, 0}, 5, 9, 7), api.OK},
		{vector, pair{1, 0}, 55296, ints(1, pair{3, 0}, 5, 55296, 7), api.OK},
		{vector, pair{3, 0}, 9, api.Array{}, api.ErrNone},
		{text, pair{1, 0}, 233, chars(1, pair{2, 0}, 97, 233), api.OK},
		{text, pair{1, 0}, 55296, api.Array{}, api.ErrRange},
		{text, pair{2, 0}, 233, api.Array{}, api.ErrNone},
		{text, pair{2, 0}, 55296, api.Array{}, api.ErrNone}, // that there is no cell comes before what v is
		{chars(0, pair{}, 65), pair{0, 0}, -1, api.Array{}, api.ErrRange},
		{chars(2, pair{1, 1}, 65), pair{0, 0}, 0x10FFFF, chars(2, pair{1, 1}, 0x10FFFF), api.OK},
		{ints(2, pair{2, 2}, 1, 2, 3, 4), pair{1, 0}, -3, ints(2, pair{2, 2}, 1, 2, -3, 4), api.OK},
		{ints(0, pair{}, 5), pair{0, 0}, math.MinInt64, ints(0, pair{}, math.MinInt64), api.OK},
	} {
		b, e := arrays.With(x.a, x.index, x.v)
		is(t, "With", b, e, x.want, x.e)
	}
}

// TestWithOfAll changes each cell of many arrays (P6.6: At of With is v, and all other cells stay).
func TestWithOfAll(t *testing.T) {
	for _, a := range someArrays() {
		good, bad := slices.Concat(intEdges, notRunes), []int64(nil)
		if a.Kind == api.KChar {
			good, bad = runeEdges, notRunes
		}
		check := kept(t, a)
		eachIndex(a, func(place int, index pair) {
			for _, v := range good {
				want, f := a, api.ErrNone
				if place >= 0 {
					want.Cells, f = slices.Clone(a.Cells), api.OK
					want.Cells[place] = v
				}
				b, e := arrays.With(a, index, v)
				is(t, "With", b, e, want, f)
				if got, g := arrays.At(b, index); e == api.OK && (got != v || g != api.OK) {
					t.Errorf("At of With of %d: %d, %d", v, got, g)
				}
			}
			for _, v := range bad {
				f := api.ErrNone
				if place >= 0 {
					f = api.ErrRange
				}
				b, e := arrays.With(a, index, v)
				is(t, "With of no rune", b, e, api.Array{}, f)
			}
		})
		check()
	}
}

func TestWithIsNew(t *testing.T) {
	cells := []int64{5, 6, 7, 8}
	a := ints(1, pair{3, 0}, cells[:3]...)
	b, _ := arrays.With(a, pair{1, 0}, 6) // which it is already
	b.Cells[0], b.Cells[1] = 1, 2
	_ = append(b.Cells, 3)
	if !slices.Equal(cells, []int64{5, 6, 7, 8}) {
		t.Errorf("With shares memory with its argument: %v", cells)
	}
	a.Cells[2] = 9
	if !equal(b, ints(1, pair{3, 0}, 1, 2, 7)) {
		t.Errorf("With keeps its argument: %v", b)
	}
}

// P6.4: Rows and String.

func TestRows(t *testing.T) {
	for _, x := range []struct {
		a    api.Array
		want [][]int64
	}{
		{ints(0, pair{}, 5), [][]int64{{5}}},
		{ints(1, pair{3, 0}, 5, 6, 7), [][]int64{{5, 6, 7}}},
		{ints(1, pair{0, 0}), [][]int64{{}}},
		{ints(2, pair{2, 3}, 1, 2, 3, 4, 5, 6), [][]int64{{1, 2, 3}, {4, 5, 6}}},
		{ints(2, pair{3, 2}, 1, 2, 3, 4, 5, 6), [][]int64{{1, 2}, {3, 4}, {5, 6}}},
		{ints(2, pair{0, 7}), nil},
		{ints(2, pair{0, 0}), nil},
		{ints(2, pair{3, 0}), [][]int64{{}, {}, {}}},
		{chars(0, pair{}, 65), [][]int64{{65}}},
		{chars(1, pair{2, 0}, 233, 33), [][]int64{{233, 33}}},
		{chars(2, pair{2, 1}, 233, 33), [][]int64{{233}, {33}}},
	} {
		rows, e := arrays.Rows(x.a)
		if !slices.EqualFunc(rows, x.want, slices.Equal) || e != api.OK {
			t.Errorf("Rows of %v: %v, %d, want %v", x.a, rows, e, x.want)
		}
	}
}

// TestRowsOfAll compares the rows of many arrays with their cells and lengths.
func TestRowsOfAll(t *testing.T) {
	for _, a := range someArrays() {
		check := kept(t, a)
		rows, e := arrays.Rows(a)
		many, size := 1, len(a.Cells)
		if a.Rank == 2 {
			many, size = a.Lens[0], a.Lens[1]
		}
		if len(rows) != many || e != api.OK || !slices.Equal(slices.Concat(rows...), a.Cells) {
			t.Errorf("Rows of %v: %v, %d", a, rows, e)
		}
		for i, row := range rows {
			if len(row) != size {
				t.Errorf("Rows of %v: row %d has %d cells", a, i, len(row))
			}
		}
		check()
	}
}

// TestRowsAreNew changes rows, and appends to them: this must change neither the array nor another row.
func TestRowsAreNew(t *testing.T) {
	for _, a := range someArrays() {
		check := kept(t, a)
		want, _ := arrays.Rows(a)
		for i := range want {
			rows, _ := arrays.Rows(a)
			_ = append(rows[i], -5, -6, -7)
			for j := range rows[i] {
				rows[i][j] = -8
			}
			rows[i] = want[i]
			if !slices.EqualFunc(rows, want, slices.Equal) {
				t.Errorf("Rows of %v: row %d shares memory with others", a, i)
			}
		}
		check()
	}
}

func TestString(t *testing.T) {
	for _, x := range []struct {
		a    api.Array
		want string
		e    api.Errno
	}{
		{chars(1, pair{2, 0}, 233, 33), "é!", api.OK},
		{chars(1, pair{0, 0}), "", api.OK},
		{chars(1, pair{1, 0}, 0), "\x00", api.OK},
		{chars(1, pair{3, 0}, 0xFFFD, 0x10FFFF, 10), "\xef\xbf\xbd\xf4\x8f\xbf\xbf\n", api.OK},
		{chars(1, pair{400, 0}, repeat(400, 128512)...), strings.Repeat("😀", 400), api.OK},
		{ints(1, pair{2, 0}, 65, 66), "", api.ErrKind},
		{ints(1, pair{0, 0}), "", api.ErrKind},
		{ints(0, pair{}, 65), "", api.ErrKind}, // the kind comes before the rank
		{ints(2, pair{1, 1}, 65), "", api.ErrKind},
		{chars(0, pair{}, 65), "", api.ErrRank},
		{chars(2, pair{1, 2}, 65, 66), "", api.ErrRank},
		{chars(2, pair{0, 0}), "", api.ErrRank},
	} {
		check := kept(t, x.a)
		if s, e := arrays.String(x.a); s != x.want || e != x.e {
			t.Errorf("String of %v: %q, %d, want %q, %d", x.a, s, e, x.want, x.e)
		}
		check()
	}
}

// TestNoArrays shows that the error of Check comes before all others.
func TestNoArrays(t *testing.T) {
	for _, x := range badArrays {
		check := kept(t, x.a)
		for _, index := range append([]pair{{0, 0}, {1, 0}, {0, 1}}, farIndices...) {
			if v, e := arrays.At(x.a, index); v != 0 || e != x.e {
				t.Errorf("At of %v: %d, %d, want %d", x.a, v, e, x.e)
			}
			for _, v := range []int64{65, -1} {
				b, e := arrays.With(x.a, index, v)
				is(t, "With of no array", b, e, api.Array{}, x.e)
			}
		}
		if rows, e := arrays.Rows(x.a); len(rows) != 0 || e != x.e {
			t.Errorf("Rows of %v: %v, %d, want %d", x.a, rows, e, x.e)
		}
		if s, e := arrays.String(x.a); s != "" || e != x.e {
			t.Errorf("String of %v: %q, %d, want %d", x.a, s, e, x.e)
		}
		check()
	}
}

// P6.6: there and back.

func TestTextAndBack(t *testing.T) {
	for _, s := range []string{"", "a", "é!", "a\x00b\n", "€ and 😀", "\xef\xbf\xbd", strings.Repeat("é", 400)} {
		a, _ := arrays.Text(s)
		if back, e := arrays.String(a); back != s || e != api.OK {
			t.Errorf("String of Text(%q): %q, %d", s, back, e)
		}
	}
	for _, a := range someArrays() {
		if s, e := arrays.String(a); e == api.OK {
			back, e := arrays.Text(s)
			is(t, "Text of String", back, e, a, api.OK)
		}
	}
}

func TestMatrixAndBack(t *testing.T) {
	for _, a := range someArrays() {
		if a.Kind != api.KInt || a.Rank != 2 {
			continue
		}
		want := a
		if a.Lens[0] == 0 {
			want.Lens[1] = 0 // no row says how long it would be
		}
		rows, _ := arrays.Rows(a)
		back, e := arrays.Matrix(rows)
		is(t, "Matrix of Rows", back, e, want, api.OK)
	}
}
