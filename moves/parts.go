package moves

import "invigilator/api"

// Take returns the first n cells of a vector, or the last -n.
func Take(n, v api.Array) (api.Array, api.Errno) {
	taken, _, e := cut(n, v)
	if e != api.OK {
		return api.Array{}, e
	}
	return vector(v.Kind, taken)
}

// Drop returns the cells of a vector that Take does not return.
func Drop(n, v api.Array) (api.Array, api.Errno) {
	_, left, e := cut(n, v)
	if e != api.OK {
		return api.Array{}, e
	}
	return vector(v.Kind, left)
}

// Cat returns the rows of one vector or matrix, each followed by that of another one.
func Cat(a, b api.Array) (api.Array, api.Errno) {
	if e := fault(operand{a, a.Kind, 1, 2}, operand{b, a.Kind, a.Rank, a.Rank}); e != api.OK {
		return api.Array{}, e
	}
	first, second := rows(a), rows(b)
	if len(first) != len(second) {
		return api.Array{}, api.ErrLength
	}
	lens := a.Lens
	lens[a.Rank-1] += b.Lens[a.Rank-1]
	c, e := blank(a.Kind, a.Rank, lens)
	if e != api.OK {
		return api.Array{}, e
	}
	for i, row := range rows(c) {
		many := copy(row, first[i])
		copy(row[many:], second[i])
	}
	return c, api.OK
}

// cut returns the cells of a vector that Take returns, and the others.
func cut(n, v api.Array) (taken, left []int64, e api.Errno) {
	if e = fault(operand{n, api.KInt, 0, 0}, operand{v, v.Kind, 1, 1}); e != api.OK {
		return nil, nil, e
	}
	many, all := n.Cells[0], int64(len(v.Cells))
	if many < 0 {
		// This adds many, and never negates it: the least number has no opposite in 64 bits.
		at := max(all+many, 0)
		return v.Cells[at:], v.Cells[:at], api.OK
	}
	at := min(many, all)
	return v.Cells[:at], v.Cells[at:], api.OK
}
