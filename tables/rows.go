package tables

import (
	"slices"
	"sort"

	"invigilator/api"
)

// Take returns the table of these rows, in this order. With an error it returns the index of the number that has it, or -1.
func Take(t api.Table, rows []int) (u api.Table, at int, e api.Errno) {
	many, e := Rows(t)
	if e != api.OK {
		return api.Table{}, -1, e
	}
	if len(rows) > api.MaxCells {
		return api.Table{}, -1, api.ErrLong
	}
	for i, row := range rows {
		if row < 0 || row >= many {
			return api.Table{}, i, api.ErrRange
		}
	}
	u = changed(t, func(cells []int64) []int64 {
		var list []int64
		for _, row := range rows {
			list = append(list, cells[row])
		}
		return list
	})
	return u, 0, api.OK
}

// Order returns the order of the column with this name.
func Order(t api.Table, name string) ([]int, api.Errno) {
	i, e := place(t, name)
	if e != api.OK {
		return nil, e
	}
	cells := t.Columns[i].Cells
	return arranged(len(cells), ascending(cells)), api.OK
}

// Sort returns the table of the rows in the order of the column with this name.
func Sort(t api.Table, name string) (api.Table, api.Errno) {
	rows, e := Order(t, name)
	if e != api.OK {
		return api.Table{}, e
	}
	// So many rows, each of them once, are never too many.
	u, _, e := Take(t, rows)
	return u, e
}

// order is asked which of two rows comes first.
type order interface {
	first(a, b int) bool
}

// ascending has the cells of a column. It is the order in which they ascend.
type ascending []int64

func (c ascending) first(a, b int) bool { return c[a] < c[b] }

// arranged returns so many rows in an order.
func arranged(many int, o order) []int {
	var rows []int
	for row := range many {
		// A row goes behind all those that it does not come before, so that rows with equal cells stay in their order.
		at := sort.Search(len(rows), func(i int) bool { return o.first(row, rows[i]) })
		rows = slices.Insert(rows, at, row)
	}
	return rows
}
