package moves

import (
	"slices"

	"invigilator/api"
)

// Fill returns the vector of n cells like that of a scalar.
func Fill(n, s api.Array) (api.Array, api.Errno) {
	if e := fault(operand{n, api.KInt, 0, 0}, operand{s, s.Kind, 0, 0}); e != api.OK {
		return api.Array{}, e
	}
	return again(s, 1, n.Cells)
}

// Grid returns the matrix with two lengths whose cells are those of a vector, again and again.
func Grid(l, v api.Array) (api.Array, api.Errno) {
	if e := fault(operand{l, api.KInt, 1, 1}, operand{v, v.Kind, 1, 1}); e != api.OK {
		return api.Array{}, e
	}
	if len(l.Cells) != 2 {
		return api.Array{}, api.ErrLength
	}
	return again(v, 2, l.Cells)
}

// again returns the array with these numbers as its lengths, as many as the rank says, whose cells are those of another one, one after the other, and then from its beginning.
func again(a api.Array, rank int, numbers []int64) (api.Array, api.Errno) {
	if slices.Min(numbers) < 0 {
		return api.Array{}, api.ErrDomain
	}
	if slices.Max(numbers) > api.MaxCells {
		return api.Array{}, api.ErrCells
	}
	var lens [2]int
	for i, n := range numbers {
		lens[i] = int(n)
	}
	b, e := blank(a.Kind, rank, lens) // whose cells may still be too many
	if e != api.OK {
		return api.Array{}, e
	}
	if len(a.Cells) == 0 && len(b.Cells) > 0 {
		return api.Array{}, api.ErrDomain
	}
	for rest := b.Cells; len(rest) > 0; {
		rest = rest[copy(rest, a.Cells):]
	}
	return b, api.OK
}
