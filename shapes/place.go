package shapes

import "invigilator/api"

// Place returns how many cells of a shape are before the one with this index.
func Place(rank int, lens [2]int, index [2]int) (int, api.Errno) {
	if e := Check(rank, lens); e != api.OK {
		return 0, e
	}
	sides := matrix(rank, lens)
	for axis, i := range index {
		if i < 0 || i >= sides[axis] {
			return 0, api.ErrNone
		}
	}
	return index[0]*sides[1] + index[1], api.OK
}

// Index returns the index of the cell of a shape with this place.
func Index(rank int, lens [2]int, place int) (index [2]int, e api.Errno) {
	if e := Check(rank, lens); e != api.OK {
		return [2]int{}, e
	}
	if place < 0 || place >= count(rank, lens) {
		return [2]int{}, api.ErrNone
	}
	// There is a cell, so no side is 0.
	width := matrix(rank, lens)[1]
	return [2]int{place / width, place % width}, api.OK
}

// matrix returns the lengths, with 1 for those beyond the rank: the cells of each shape have the same indices and places as those of a matrix with these lengths.
func matrix(rank int, lens [2]int) [2]int {
	switch rank {
	case 0:
		lens[0] = 1
		fallthrough
	case 1:
		lens[1] = 1
	}
	return lens
}

// count returns how many cells there are. Check asks for it too, so what it is given may not be a shape yet: it may have too many cells.
func count(rank int, lens [2]int) int {
	sides := matrix(rank, lens)
	return sides[0] * sides[1]
}
