package arrays

import (
	"slices"

	"invigilator/api"
	"invigilator/runes"
	"invigilator/shapes"
)

// At returns the cell with this index.
func At(a api.Array, index [2]int) (int64, api.Errno) {
	place, e := placeIn(a, index)
	if e != api.OK {
		return 0, e
	}
	return a.Cells[place], api.OK
}

// With returns the array in which the cell with this index is v.
func With(a api.Array, index [2]int, v int64) (api.Array, api.Errno) {
	place, e := placeIn(a, index)
	if e != api.OK {
		return api.Array{}, e
	}
	cells := slices.Clone(a.Cells)
	cells[place] = v
	return Make(a.Kind, a.Rank, a.Lens, cells) // only v may be at fault: a number among runes that is none
}

// Rows returns the cells, row by row.
func Rows(a api.Array) ([][]int64, api.Errno) {
	if e := Check(a); e != api.OK {
		return nil, e
	}
	many, size, e := shapes.Rows(a.Rank, a.Lens)
	cells := slices.Clone(a.Cells)
	rows := make([][]int64, many)
	for i := range rows {
		// The capacity of a row ends with it, so that what is appended to a row does not overwrite the next one.
		from, to := i*size, (i+1)*size
		rows[i] = cells[from:to:to]
	}
	return rows, e
}

// String returns the string of the runes of an array of rank 1.
func String(a api.Array) (string, api.Errno) {
	if e := Check(a); e != api.OK {
		return "", e
	}
	if a.Kind != api.KChar {
		return "", api.ErrKind
	}
	if a.Rank != 1 {
		return "", api.ErrRank
	}
	b, _, e := runes.Bytes(a.Cells)
	return string(b), e
}

// placeIn returns the place of the cell of an array with this index.
func placeIn(a api.Array, index [2]int) (int, api.Errno) {
	if e := Check(a); e != api.OK {
		return 0, e
	}
	return shapes.Place(a.Rank, a.Lens, index)
}
