package tables_test

import (
	"fmt"
	"math"
	"slices"
	"testing"

	"invigilator/api"
	"invigilator/tables"
)

// P13.4: Take.

func TestTake(t *testing.T) {
	empty := of(column{"mark", vector()}, column{"name", text()})
	for _, x := range []struct {
		t    api.Table
		rows []int
		want api.Table
		at   int
		e    api.Errno
	}{
		{grades(), []int{2, 2}, of(column{"mark", vector(3, 3)}, column{"name", text('b', 'b')}), 0, api.OK},
		{grades(), []int{2, 0, 1}, of(column{"mark", vector(3, 3, 1)}, column{"name", text('b', 'c', 'a')}), 0, api.OK},
		{grades(), []int{0, 1, 2}, grades(), 0, api.OK},
		{grades(), nil, empty, 0, api.OK},
		{grades(), []int{}, empty, 0, api.OK},
		{grades(), slices.Repeat([]int{1}, 400), of(column{"mark", vector(slices.Repeat([]int64{1}, 400)...)}, column{"name", text(slices.Repeat([]int64{'a'}, 400)...)}), 0, api.OK},
		{grades(), []int{3}, api.Table{}, 0, api.ErrRange},
		{grades(), []int{0, 1, 2, 3, -1}, api.Table{}, 3, api.ErrRange},
		{grades(), []int{0, -1, 3}, api.Table{}, 1, api.ErrRange},
		{grades(), []int{1, 1, math.MaxInt}, api.Table{}, 2, api.ErrRange},
		{grades(), []int{math.MinInt}, api.Table{}, 0, api.ErrRange},
		{grades(), []int{1, 1 << 32}, api.Table{}, 1, api.ErrRange}, // 0 in 32 bits
		{grades(), append(slices.Repeat([]int{1}, 399), 3), api.Table{}, 399, api.ErrRange},
		{grades(), slices.Repeat([]int{1}, 401), api.Table{}, -1, api.ErrLong},
		{grades(), slices.Repeat([]int{-1}, 401), api.Table{}, -1, api.ErrLong}, // that there are too many comes first
		{grades(), slices.Repeat([]int{3}, 5000), api.Table{}, -1, api.ErrLong},
		{empty, nil, empty, 0, api.OK},
		{empty, []int{0}, api.Table{}, 0, api.ErrRange},
		{api.Table{}, nil, api.Table{}, 0, api.OK},
		{api.Table{}, []int{0}, api.Table{}, 0, api.ErrRange},
		{api.Table{}, []int{-1}, api.Table{}, 0, api.ErrRange},
		{api.Table{}, slices.Repeat([]int{0}, 401), api.Table{}, -1, api.ErrLong},
	} {
		u, at, e := tables.Take(x.t, x.rows)
		is(t, fmt.Sprintf("Take of %.40v", fmt.Sprint(x.rows)), u, e, x.want, x.e)
		if at != x.at {
			t.Errorf("Take of %v: %d, want %d", x.rows, at, x.at)
		}
	}
}

// someRows has lists of rows for a table of so many: each alone, some that come again, and what is none.
func someRows(many int) [][]int {
	list := [][]int{nil, {-1}, {many}, {0, many}, {many - 1, -many}}
	var all []int
	for row := range many {
		all = append(all, row)
		list = append(list, []int{row})
	}
	turned := slices.Clone(all)
	slices.Reverse(turned)
	list = append(list, all, turned)
	if many > 0 {
		var far []int
		for i := range 400 {
			far = append(far, i*i*31%many)
		}
		list = append(list, far, append(slices.Clone(far), 0), far[:399], append(slices.Clone(far[:200]), many, many))
	}
	return list
}

// takenOf returns what the promise says of Take, for a table without a fault.
func takenOf(t api.Table, rows []int) (api.Table, int, api.Errno) {
	if len(rows) > 400 {
		return api.Table{}, -1, api.ErrLong
	}
	none := slices.IndexFunc(rows, func(row int) bool { return row < 0 || row >= heightOf(t) })
	if none >= 0 {
		return api.Table{}, none, api.ErrRange
	}
	return takenFrom(t, rows), 0, api.OK
}

func TestTakeOfAll(t *testing.T) {
	for _, u := range goodTables() {
		for _, rows := range someRows(heightOf(u)) {
			want, place, f := takenOf(u, rows)
			got, at, e := tables.Take(u, rows)
			is(t, "Take", got, e, want, f)
			if at != place {
				t.Errorf("Take of %v: %d, want %d", rows, at, place)
			}
		}
	}
}

// P13.4: Order and Sort.

func TestOrderAndSort(t *testing.T) {
	one := func(cells ...int64) api.Table { return of(column{"a", vector(cells...)}) }
	for _, x := range []struct {
		t    api.Table
		name string
		rows []int
		want api.Table
		e    api.Errno
	}{
		{grades(), "mark", []int{1, 0, 2}, of(column{"mark", vector(1, 3, 3)}, column{"name", text('a', 'c', 'b')}), api.OK},
		{grades(), "name", []int{1, 2, 0}, of(column{"mark", vector(1, 3, 3)}, column{"name", text('a', 'b', 'c')}), api.OK},
		{grades(), "grade", nil, api.Table{}, api.ErrNone},
		{grades(), "", nil, api.Table{}, api.ErrNone},
		{api.Table{}, "mark", nil, api.Table{}, api.ErrNone},
		{one(), "a", nil, one(), api.OK},
		{one(7), "a", []int{0}, one(7), api.OK},
		{one(2, 2, 2), "a", []int{0, 1, 2}, one(2, 2, 2), api.OK},
		{one(0, -1, -2), "a", []int{2, 1, 0}, one(-2, -1, 0), api.OK},
		{one(math.MaxInt64, math.MinInt64, 0, -1, math.MinInt64, math.MaxInt64), "a", []int{1, 4, 3, 2, 0, 5}, one(math.MinInt64, math.MinInt64, -1, 0, math.MaxInt64, math.MaxInt64), api.OK}, // their differences are beyond 64 bits
		{one(1<<32, 1, -1<<32, 2), "a", []int{2, 1, 3, 0}, one(-1<<32, 1, 2, 1<<32), api.OK},
	} {
		if rows, e := tables.Order(x.t, x.name); !slices.Equal(rows, x.rows) || e != x.e {
			t.Errorf("Order of %q of %v: %v, %d, want %v, %d", x.name, x.t, rows, e, x.rows, x.e)
		}
		u, e := tables.Sort(x.t, x.name)
		is(t, "Sort", u, e, x.want, x.e)
	}
}

// eachSorted does something with a column of many tables: of those without a fault, of all short ones with a few numbers, and of some long ones with many equal cells. Each has a last column with the numbers of the rows.
func eachSorted(do func(t api.Table, name string)) {
	numbered := func(l ...column) api.Table {
		a := vector()
		for i := range l[0].a.Cells {
			a.Lens[0]++
			a.Cells = append(a.Cells, int64(i))
		}
		return of(append(l, column{"row", a})...)
	}
	var add func(cells []int64)
	add = func(cells []int64) {
		do(numbered(column{"a", vector(cells...)}), "a")
		if len(cells) == 6 {
			return
		}
		for _, n := range []int64{math.MinInt64, -5, math.MaxInt64} {
			add(append(slices.Clone(cells), n))
		}
	}
	add(nil)
	for _, length := range []int{12, 13, 20, 21, 50, 399, 400} { // few are often sorted in another way than many
		for _, different := range []int{1, 2, 3, 10, 101} {
			a, b := vector(make([]int64, length)...), text(make([]int64, length)...)
			for i := range length {
				a.Cells[i] = int64(i*i*31%different) - 5
				b.Cells[i] = int64((length - i) * 7 % different)
			}
			t := numbered(column{"a", a}, column{"b", b})
			do(t, "a")
			do(t, "b")
			do(t, "row")
		}
	}
	for _, t := range goodTables() {
		if len(t.Names) == 0 || len(t.Names) == 16 {
			continue
		}
		var l []column
		for i, name := range t.Names {
			l = append(l, column{name, t.Columns[i]})
		}
		for _, c := range l {
			do(numbered(l...), c.name)
		}
	}
}

func TestOrderOfAll(t *testing.T) {
	eachSorted(func(u api.Table, name string) {
		i, _ := placeOf(u, name)
		want := orderOf(u.Columns[i].Cells)
		if rows, e := tables.Order(u, name); !slices.Equal(rows, want) || e != api.OK {
			t.Errorf("Order of %q of %v: %v, %d, want %v", name, u, rows, e, want)
		}
		got, e := tables.Sort(u, name)
		is(t, "Sort", got, e, takenFrom(u, want), api.OK)
	})
	for _, u := range goodTables() {
		for _, name := range someNames {
			if _, f := placeOf(u, name); f != api.OK {
				if rows, e := tables.Order(u, name); len(rows) > 0 || e != f {
					t.Errorf("Order of %q of %v: %v, %d, want %d", name, u, rows, e, f)
				}
				got, e := tables.Sort(u, name)
				is(t, "Sort", got, e, api.Table{}, f)
			}
		}
	}
}

// P13.6: sorted tables.

func TestSorted(t *testing.T) {
	eachSorted(func(u api.Table, name string) {
		sorted := must(t)(tables.Sort(u, name))
		i, _ := placeOf(u, name)
		cells := sorted.Columns[i].Cells
		if !slices.IsSorted(cells) {
			t.Errorf("the cells of %q do not ascend: %v", name, sorted)
		}
		// The last column says where each row comes from.
		from := sorted.Columns[len(sorted.Columns)-1].Cells
		seen := map[int64]bool{}
		for row, old := range from {
			if seen[old] || !slices.Equal(rowOf(sorted, row), rowOf(u, int(old))) {
				t.Errorf("row %d of %v is none of %v, or comes again", row, sorted, u)
			}
			seen[old] = true
			if row > 0 && cells[row-1] == cells[row] && from[row-1] >= old {
				t.Errorf("rows with equal cells are in another order: %v", sorted)
			}
		}
		if len(seen) != heightOf(u) {
			t.Errorf("%v has not the rows of %v", sorted, u)
		}
		again, e := tables.Sort(sorted, name)
		is(t, "Sort of Sort", again, e, sorted, api.OK)
	})
}

// P13.7: Take does with each column what it does with a table of this column alone.

func TestTakeColumnByColumn(t *testing.T) {
	for _, u := range goodTables() {
		for _, rows := range someRows(heightOf(u)) {
			all, at, e := tables.Take(u, rows)
			for i, name := range u.Names {
				alone, place, f := tables.Take(of(column{name, u.Columns[i]}), rows)
				if at != place || e != f {
					t.Errorf("Take of %v: %d, %d, of one column %d, %d", rows, at, e, place, f)
				}
				if e == api.OK && !same(alone, of(column{all.Names[i], all.Columns[i]})) {
					t.Errorf("Take of %v: column %d of %v, but alone %v", rows, i, all, alone)
				}
			}
		}
	}
}
