package tables_test

import (
	"math"
	"slices"
	"testing"

	"invigilator/api"
	"invigilator/tables"
)

// P13.1: Check.

func TestCheck(t *testing.T) {
	for _, x := range badTables {
		if column, e := tables.Check(x.t); column != x.column || e != x.e {
			t.Errorf("Check of %v: %d, %d, want %d, %d", x.t, column, e, x.column, x.e)
		}
	}
	for _, u := range goodTables() {
		if column, e := tables.Check(u); column != 0 || e != api.OK {
			t.Errorf("Check of %v: %d, %d", u, column, e)
		}
	}
}

// TestCheckOfSmallTables compares Check with the definition for all tables of at most three columns of these.
func TestCheckOfSmallTables(t *testing.T) {
	var columns []column
	for _, name := range []string{"a", "b", "a-1", "B"} {
		for _, a := range []api.Array{
			vector(), vector(7), vector(8, 9), text(65), text(65, 55296), number(5), ints(2, pair{1, 1}, 5),
			{}, ints(1, pair{1, 0}), ints(1, pair{401, 0}), chars(0, pair{}, -1),
		} {
			columns = append(columns, column{name, a})
		}
	}
	var add func(l []column)
	add = func(l []column) {
		want, f := faultOf(of(l...))
		if i, e := tables.Check(of(l...)); i != want || e != f {
			t.Errorf("Check of %v: %d, %d, want %d, %d", l, i, e, want, f)
		}
		if len(l) == 3 {
			return
		}
		for _, c := range columns {
			add(append(slices.Clone(l), c))
		}
	}
	add(nil)
}

func TestCheckOfUnlikeLists(t *testing.T) {
	for names := range 20 {
		for arrays := range 20 {
			u := of(named(max(names, arrays), vector(1))...)
			u.Names, u.Columns = u.Names[:names], u.Columns[:arrays]
			want, f := faultOf(u)
			if i, e := tables.Check(u); i != want || e != f {
				t.Errorf("Check of %d names and %d columns: %d, %d, want %d, %d", names, arrays, i, e, want, f)
			}
		}
	}
}

// All functions with a table return the error of Check, whatever else is wrong.

func TestBadTables(t *testing.T) {
	for _, x := range badTables {
		if many, e := tables.Rows(x.t); many != 0 || e != x.e {
			t.Errorf("Rows of %v: %d, %d, want %d", x.t, many, e, x.e)
		}
		if s, e := tables.Print(x.t); s != "" || e != x.e {
			t.Errorf("Print of %v: %q, %d, want %d", x.t, s, e, x.e)
		}
		for _, rows := range [][]int{nil, {0}, {-1, 5}, make([]int, 401)} {
			u, at, e := tables.Take(x.t, rows)
			is(t, "Take", u, e, api.Table{}, x.e)
			if at != -1 {
				t.Errorf("Take of %v: %d", x.t, at)
			}
		}
		for _, name := range someNames {
			if a, e := tables.Column(x.t, name); !equal(a, api.Array{}) || e != x.e {
				t.Errorf("Column of %v: %v, %d, want %d", x.t, a, e, x.e)
			}
			if l, e := tables.Order(x.t, name); len(l) > 0 || e != x.e {
				t.Errorf("Order of %v: %v, %d, want %d", x.t, l, e, x.e)
			}
			if row, e := tables.Find(x.t, name, 1); row != 0 || e != x.e {
				t.Errorf("Find in %v: %d, %d, want %d", x.t, row, e, x.e)
			}
			u, e := tables.Drop(x.t, name)
			is(t, "Drop", u, e, api.Table{}, x.e)
			u, e = tables.Sort(x.t, name)
			is(t, "Sort", u, e, api.Table{}, x.e)
			for _, a := range []api.Array{vector(1), number(5), {}} {
				u, e = tables.Add(x.t, name, a)
				is(t, "Add", u, e, api.Table{}, x.e)
			}
		}
	}
}

// P13.2: Rows, Column and Find.

func TestRows(t *testing.T) {
	for _, x := range []struct {
		t    api.Table
		want int
	}{
		{grades(), 3},
		{api.Table{}, 0},
		{api.Table{Names: []string{}, Columns: []api.Array{}}, 0},
		{of(column{"a", vector()}), 0},
		{of(column{"a", vector(7)}), 1},
		{of(named(16, vector(numbers(400, 0)...))...), 400},
	} {
		if many, e := tables.Rows(x.t); many != x.want || e != api.OK {
			t.Errorf("Rows of %v: %d, %d", x.t, many, e)
		}
	}
	for _, u := range goodTables() {
		if many, e := tables.Rows(u); many != heightOf(u) || e != api.OK {
			t.Errorf("Rows of %v: %d, %d", u, many, e)
		}
	}
}

func TestColumn(t *testing.T) {
	if a, e := tables.Column(grades(), "mark"); !equal(a, vector(3, 1, 3)) || e != api.OK {
		t.Errorf("Column: %v, %d", a, e)
	}
	if a, e := tables.Column(grades(), "name"); !equal(a, text('c', 'a', 'b')) || e != api.OK {
		t.Errorf("Column: %v, %d", a, e)
	}
	for _, u := range goodTables() {
		for _, name := range someNames {
			want := api.Array{}
			i, f := placeOf(u, name)
			if f == api.OK {
				want = u.Columns[i]
			}
			if a, e := tables.Column(u, name); !equal(a, want) || e != f {
				t.Errorf("Column %q of %v: %v, %d, want %v, %d", name, u, a, e, want, f)
			}
		}
	}
}

func TestFind(t *testing.T) {
	for _, x := range []struct {
		name string
		v    int64
		row  int
		e    api.Errno
	}{
		{"mark", 3, 0, api.OK},
		{"mark", 1, 1, api.OK},
		{"mark", 2, 0, api.ErrNone},
		{"mark", 'c', 0, api.ErrNone},
		{"mark", 1<<32 + 3, 0, api.ErrNone}, // 3 in 32 bits
		{"name", 'b', 2, api.OK},
		{"name", 3, 0, api.ErrNone},
		{"name", -1, 0, api.ErrNone},
		{"name", math.MinInt64, 0, api.ErrNone},
		{"grade", 3, 0, api.ErrNone},
		{"", 3, 0, api.ErrNone},
		{"Mark", 3, 0, api.ErrNone},
		{"marks", 3, 0, api.ErrNone},
		{"mar", 3, 0, api.ErrNone},
	} {
		if row, e := tables.Find(grades(), x.name, x.v); row != x.row || e != x.e {
			t.Errorf("Find of %d in %q: %d, %d, want %d, %d", x.v, x.name, row, e, x.row, x.e)
		}
	}
}

func TestFindOfAll(t *testing.T) {
	values := slices.Concat(numbers(11, 0), letters(8, 0), []int64{2, -2, 55296, 1114112, math.MaxInt64 - 1})
	for _, u := range goodTables() {
		for _, name := range someNames {
			for _, v := range values {
				want := 0
				i, f := placeOf(u, name)
				if f == api.OK {
					if want = slices.Index(u.Columns[i].Cells, v); want < 0 {
						want, f = 0, api.ErrNone
					}
				}
				if row, e := tables.Find(u, name, v); row != want || e != f {
					t.Errorf("Find of %d in %q of %v: %d, %d, want %d, %d", v, name, u, row, e, want, f)
				}
			}
		}
	}
}

// P13.3: Add and Drop.

func TestAdd(t *testing.T) {
	for _, x := range []struct {
		t    api.Table
		name string
		a    api.Array
		want api.Errno
	}{
		{grades(), "grade", vector(7, 8, 9), api.OK},
		{grades(), "grade", text('x', 'y', 'z'), api.OK},
		{grades(), "mark", vector(3, 1, 3), api.ErrTwice},
		{grades(), "name", vector(7, 8, 9), api.ErrTwice},
		{grades(), "grade", vector(7, 8), api.ErrLength},
		{grades(), "grade", vector(7, 8, 9, 10), api.ErrLength},
		{grades(), "grade", vector(), api.ErrLength},
		{grades(), "Grade", vector(7, 8, 9), api.ErrForm},
		{grades(), "", vector(7, 8), api.ErrForm},
		{grades(), "mark", number(5), api.ErrTwice},
		{grades(), "mark", vector(7, 8), api.ErrTwice},
		{grades(), "grade", number(5), api.ErrRank},
		{grades(), "grade", ints(2, pair{3, 1}, 7, 8, 9), api.ErrRank},
		{grades(), "grade", api.Array{}, api.ErrArg},
		{grades(), "grade", text(1, 2, 55296), api.ErrRange},
		{grades(), "grade", text(55296), api.ErrRange},
		{grades(), "grade", ints(1, pair{3, 0}, 7), api.ErrForm},
		{grades(), "grade", vector(make([]int64, 401)...), api.ErrCells},
		{api.Table{}, "a", vector(), api.OK},
		{api.Table{}, "a", vector(numbers(400, 0)...), api.OK},
		{api.Table{}, "abcdefghijklmnop", text(65, 66), api.OK},
		{api.Table{}, "abcdefghijklmnopq", text(65, 66), api.ErrForm},
		{api.Table{}, "a", number(5), api.ErrRank},
		{of(named(15, vector(1))...), "b", vector(2), api.OK},
		{of(named(16, vector(1))...), "b", vector(2), api.ErrLong},
		{of(named(16, vector(1))...), "a0", vector(2), api.ErrLong}, // that there are too many comes first
		{of(named(16, vector(1))...), "", api.Array{}, api.ErrLong},
	} {
		u, e := tables.Add(x.t, x.name, x.a)
		want := api.Table{Names: append(slices.Clone(x.t.Names), x.name), Columns: append(slices.Clone(x.t.Columns), x.a)}
		is(t, "Add", u, e, want, x.want)
	}
}

func TestAddToAll(t *testing.T) {
	for _, u := range goodTables() {
		for _, name := range someNames {
			many := heightOf(u)
			for _, a := range []api.Array{vector(numbers(many, 1)...), text(letters(many, 1)...), vector(numbers(many+1, 1)...), vector(), number(5), {}} {
				want := api.Table{Names: append(slices.Clone(u.Names), name), Columns: append(slices.Clone(u.Columns), a)}
				_, f := faultOf(want)
				got, e := tables.Add(u, name, a)
				is(t, "Add", got, e, want, f)
			}
		}
	}
}

func TestDrop(t *testing.T) {
	for _, x := range []struct {
		t    api.Table
		name string
		want api.Table
		e    api.Errno
	}{
		{grades(), "mark", of(column{"name", text('c', 'a', 'b')}), api.OK},
		{grades(), "name", of(column{"mark", vector(3, 1, 3)}), api.OK},
		{grades(), "grade", api.Table{}, api.ErrNone},
		{grades(), "", api.Table{}, api.ErrNone},
		{grades(), "MARK", api.Table{}, api.ErrNone},
		{of(column{"a", vector(1)}), "a", api.Table{}, api.OK},
		{api.Table{}, "a", api.Table{}, api.ErrNone},
		{of(column{"a", vector(1)}, column{"b", vector(2)}, column{"c", vector(3)}), "b", of(column{"a", vector(1)}, column{"c", vector(3)}), api.OK},
	} {
		u, e := tables.Drop(x.t, x.name)
		is(t, "Drop", u, e, x.want, x.e)
	}
}

func TestDropOfAll(t *testing.T) {
	for _, u := range goodTables() {
		for _, name := range someNames {
			var want api.Table
			_, f := placeOf(u, name)
			for i, other := range u.Names {
				if other != name {
					want.Names = append(want.Names, other)
					want.Columns = append(want.Columns, u.Columns[i])
				}
			}
			got, e := tables.Drop(u, name)
			is(t, "Drop", got, e, want, f)
		}
	}
}

// P13.7: Drop of what was added last is undone; Column of it is the array.

func TestAddIsUndone(t *testing.T) {
	for _, u := range goodTables() {
		if len(u.Names) == 16 {
			continue
		}
		for _, a := range []api.Array{vector(numbers(heightOf(u), 2)...), text(letters(heightOf(u), 3)...)} {
			added := must(t)(tables.Add(u, "last", a))
			got, e := tables.Drop(added, "last")
			is(t, "Drop of Add", got, e, u, api.OK)
			if b, e := tables.Column(added, "last"); !equal(b, a) || e != api.OK {
				t.Errorf("Column of Add to %v: %v, %d, want %v", u, b, e, a)
			}
		}
	}
}
