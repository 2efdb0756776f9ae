package tables_test

import (
	"slices"
	"testing"
	"unsafe"

	"invigilator/api"
	"invigilator/tables"
)

// P13.8: arguments are not modified, and results are new memory.

// call is a function that returns a table, or an array as the only column of one, and the arguments that it is called with.
type call struct {
	name string
	do   func(t api.Table, a api.Array, rows []int) (api.Table, api.Errno)
}

func calls(name string) []call {
	return []call{
		{"Column", func(t api.Table, a api.Array, rows []int) (api.Table, api.Errno) {
			a, e := tables.Column(t, name)
			return of(column{"a", a}), e
		}},
		{"Add", func(t api.Table, a api.Array, rows []int) (api.Table, api.Errno) { return tables.Add(t, "zebra", a) }},
		{"Drop", func(t api.Table, a api.Array, rows []int) (api.Table, api.Errno) { return tables.Drop(t, name) }},
		{"Take", func(t api.Table, a api.Array, rows []int) (api.Table, api.Errno) {
			u, _, e := tables.Take(t, rows)
			return u, e
		}},
		{"Sort", func(t api.Table, a api.Array, rows []int) (api.Table, api.Errno) { return tables.Sort(t, name) }},
	}
}

// roomy returns a copy of a table, with room behind each list in it.
func roomy(t api.Table) api.Table {
	u := api.Table{Names: slices.Grow(slices.Clone(t.Names), 20), Columns: slices.Grow(slices.Clone(t.Columns), 20)}
	for i := range u.Columns {
		u.Columns[i].Cells = slices.Grow(slices.Clone(u.Columns[i].Cells), 20)
	}
	return u
}

// whole returns a table with all memory behind its lists.
func whole(t api.Table) api.Table {
	u := api.Table{Names: t.Names[:cap(t.Names)], Columns: slices.Clone(t.Columns[:cap(t.Columns)])}
	for i := range u.Columns {
		u.Columns[i].Cells = u.Columns[i].Cells[:cap(u.Columns[i].Cells)]
	}
	return u
}

// scribble writes over a table, and all memory behind its lists.
func scribble(t api.Table) {
	columns := t.Columns[:cap(t.Columns)]
	for i := range columns {
		cells := columns[i].Cells
		for k := range cells[:cap(cells)] {
			cells[:cap(cells)][k] = -77
		}
		columns[i] = api.Array{Kind: -77}
	}
	for i := range t.Names[:cap(t.Names)] {
		t.Names[:cap(t.Names)][i] = "scribbled"
	}
}

func TestNewMemory(t *testing.T) {
	for _, u := range goodTables() {
		many := heightOf(u)
		for _, name := range u.Names[:min(len(u.Names), 3)] {
			for _, f := range calls(name) {
				arg := roomy(u)
				a := vector(slices.Grow(numbers(many, 0), 20)...)
				rows := orderOf(numbers(many, 5))
				got, e := f.do(arg, a, rows)
				if e != api.OK {
					continue // sixteen columns and one more
				}
				kept := deep(got)
				before, others := deep(whole(arg)), slices.Clone(a.Cells)
				scribble(got)
				if !same(whole(arg), before) || !slices.Equal(a.Cells, others) {
					t.Errorf("the result of %s of %v shares memory with an argument", f.name, u)
				}
				again, _ := f.do(arg, a, rows)
				scribble(arg)
				scribble(of(column{"a", a}))
				for i := range rows {
					rows[i] = -77
				}
				if !same(again, kept) {
					t.Errorf("%s of %v keeps an argument: %v, was %v", f.name, u, again, kept)
				}
			}
		}
	}
}

// TestOrderIsNew writes over the numbers of rows.
func TestOrderIsNew(t *testing.T) {
	u := grades()
	for range 2 {
		rows, _ := tables.Order(u, "mark")
		if !slices.Equal(rows, []int{1, 0, 2}) {
			t.Errorf("Order: %v", rows)
		}
		for i := range rows {
			rows[i] = 99
		}
	}
}

// TestColumnsAreApart writes over the columns of results one by one: nothing must be seen in the others, also if the columns of the argument are the same memory.
func TestColumnsAreApart(t *testing.T) {
	cells := []int64{2, 1, 2, 0}
	u := of(column{"a", vector(cells...)}, column{"b", text(cells...)}, column{"c", vector(cells...)})
	for i := range u.Columns {
		u.Columns[i].Cells = cells
	}
	list := []api.Table{}
	for _, f := range calls("a") {
		got, e := f.do(u, u.Columns[1], []int{0, 3, 3})
		if e != api.OK {
			t.Fatalf("%s: %d", f.name, e)
		}
		list = append(list, got)
	}
	parsed, _, _ := tables.Parse("a int 2 1\nb char 2 1\nc int 2 1\n")
	for _, got := range append(list, parsed) {
		for i := range got.Columns {
			before := deep(got)
			l := got.Columns[i].Cells
			for k := range l[:cap(l)] {
				l[:cap(l)][k] = -77
			}
			for other := range got.Columns {
				if other != i && !equal(got.Columns[other], before.Columns[other]) {
					t.Errorf("the columns %d and %d of %v share memory", i, other, got)
				}
			}
		}
	}
	if !slices.Equal(cells, []int64{2, 1, 2, 0}) {
		t.Errorf("the cells are now %v", cells)
	}
}

// TestArgumentsStay calls all functions with all tables, with errors or without.
func TestArgumentsStay(t *testing.T) {
	for _, u := range allTables() {
		arg, a, rows := roomy(u), vector(numbers(heightOf(u), 0)...), []int{0, 0, 1, -1}
		before, others := deep(whole(arg)), slices.Clone(a.Cells)
		for _, name := range []string{"mark", "a", "a0", "zebra"} {
			for _, f := range calls(name) {
				f.do(arg, a, rows)
			}
			tables.Order(arg, name)
			tables.Find(arg, name, 3)
		}
		tables.Check(arg)
		tables.Rows(arg)
		tables.Print(arg)
		if !same(whole(arg), before) || !slices.Equal(a.Cells, others) || !slices.Equal(rows, []int{0, 0, 1, -1}) {
			t.Errorf("%v is now %v, %v, %v", before, arg, a, rows)
		}
	}
}

// TestNamesAreNew looks for the memory of strings.
func TestNamesAreNew(t *testing.T) {
	u, s := grades(), "mark int 1\nname char 65\n"
	added := "grade"
	list := []string{u.Names[0], u.Names[1], added, s}
	var results []string
	for _, f := range calls("mark") {
		got, _ := f.do(u, vector(1, 2, 3), []int{1})
		if f.name != "Column" {
			results = append(results, got.Names...)
		}
	}
	got, _ := tables.Add(u, added, vector(1, 2, 3))
	results = append(results, got.Names...)
	got, _, _ = tables.Parse(s)
	results = append(results, got.Names...)
	for _, name := range results {
		for _, other := range list {
			p, w := uintptr(unsafe.Pointer(unsafe.StringData(name))), uintptr(unsafe.Pointer(unsafe.StringData(other)))
			if w <= p && p < w+uintptr(len(other)) {
				t.Errorf("%q lies in %q", name, other)
			}
		}
	}
}
