package arrays

import (
	"cmp"
	"slices"

	"invigilator/api"
)

// Same reports whether all parts of both are equal.
func Same(a, b api.Array) bool { return Like(a, b) && slices.Equal(a.Cells, b.Cells) }

// Like reports whether both have the same kind and shape.
func Like(a, b api.Array) bool {
	return a.Kind == b.Kind && a.Rank == b.Rank && a.Lens == b.Lens
}

// Compare returns -1, 0 or 1, as a comes before b, is the same, or comes after it.
func Compare(a, b api.Array) (int, api.Errno) {
	if e := Check(a); e != api.OK {
		return 0, e
	}
	if e := Check(b); e != api.OK {
		return 0, e
	}
	return cmp.Or(
		cmp.Compare(a.Kind, b.Kind),
		cmp.Compare(a.Rank, b.Rank),
		slices.Compare(a.Lens[:], b.Lens[:]),
		slices.Compare(a.Cells, b.Cells),
	), api.OK
}
