package tables_test

import (
	"fmt"
	"math"
	"regexp"
	"slices"
	"testing"

	"invigilator/api"
	"invigilator/arrays"
)

// Tables of all sorts, and what the chapter says of them, for the tests to compare with.

type pair = [2]int

// ints and chars return arrays with these parts, whatever they are.
func ints(rank int, lens pair, cells ...int64) api.Array {
	return api.Array{Kind: api.KInt, Rank: rank, Lens: lens, Cells: cells}
}

func chars(rank int, lens pair, cells ...int64) api.Array {
	return api.Array{Kind: api.KChar, Rank: rank, Lens: lens, Cells: cells}
}

// number and vector return int arrays of rank 0 and 1, text a char array of rank 1.
func number(n int64) api.Array        { return ints(0, pair{}, n) }
func vector(cells ...int64) api.Array { return ints(1, pair{len(cells), 0}, cells...) }
func text(cells ...int64) api.Array   { return chars(1, pair{len(cells), 0}, cells...) }

// column is a part of a table: a name, and an array.
type column struct {
	name string
	a    api.Array
}

// of returns the table with these columns, whatever they are.
func of(l ...column) api.Table {
	var t api.Table
	for _, c := range l {
		t.Names = append(t.Names, c.name)
		t.Columns = append(t.Columns, c.a)
	}
	return t
}

// grades is the table T of the chapter.
func grades() api.Table {
	return of(column{"mark", vector(3, 1, 3)}, column{"name", text('c', 'a', 'b')})
}

// named returns so many columns a0, a1 and so on, all of the same array.
func named(many int, a api.Array) []column {
	var l []column
	for i := range many {
		l = append(l, column{fmt.Sprintf("a%d", i), a})
	}
	return l
}

// numbers returns so many numbers, with ends of 64 bits, and with equal ones at different distances.
func numbers(many, from int) []int64 {
	some := []int64{3, math.MaxInt64, math.MinInt64, 3, -1, 1<<32 + 3, 0, 3, -1 << 32, 1, math.MaxInt64}
	var l []int64
	for i := from; i < from+many; i++ {
		l = append(l, some[i%len(some)])
	}
	return l
}

func letters(many, from int) []int64 {
	some := []int64{65, 0x10FFFF, 0, 0xE000, 66, 65, 0xD7FF, 1}
	var l []int64
	for i := from; i < from+many; i++ {
		l = append(l, some[i%len(some)])
	}
	return l
}

// goodTables has tables without a fault: with few, many and no columns and rows.
func goodTables() []api.Table {
	shared := []int64{2, 1, 2, 0}
	list := []api.Table{
		{},
		{Names: []string{}, Columns: []api.Array{}},
		grades(),
		of(column{"a", vector(5, -5)}),
		of(column{"a", text()}, column{"b", vector()}),
		of(column{"abcdefghijklmnop", vector(1)}, column{"abcdefghijklmno", vector(2)}, column{"a-", text(65)}, column{"a", vector(4)}, column{"a--1", text(66)}),
		of(column{"once", vector(shared...)}, column{"again", text(shared...)}, column{"part", vector(shared[:4:4]...)}),
	}
	for _, many := range []int{1, 2, 15, 16} {
		for _, rows := range []int{0, 1, 2, 3, 7, 40, 400} {
			t := of(named(many, api.Array{})...)
			for i := range t.Columns {
				t.Columns[i] = vector(numbers(rows, i)...)
				if i%3 == 1 {
					t.Columns[i] = text(letters(rows, i)...)
				}
			}
			list = append(list, t)
		}
	}
	return list
}

// badTables has tables with a fault, the column that has it, and its error.
var badTables = []struct {
	t      api.Table
	column int
	e      api.Errno
}{
	{of(named(17, vector(1))...), -1, api.ErrLong},
	{of(slices.Repeat([]column{{"", number(5)}}, 17)...), -1, api.ErrLong}, // that there are too many comes before all else
	{api.Table{Names: make([]string, 17)}, -1, api.ErrLong},
	{api.Table{Names: make([]string, 500), Columns: make([]api.Array, 499)}, -1, api.ErrLong},
	{api.Table{Names: make([]string, 16), Columns: make([]api.Array, 17)}, -1, api.ErrForm},
	{api.Table{Names: make([]string, 16), Columns: make([]api.Array, 500)}, -1, api.ErrForm},
	{api.Table{Names: []string{"a"}}, -1, api.ErrForm},
	{api.Table{Columns: []api.Array{vector(1)}}, -1, api.ErrForm},
	{api.Table{Names: []string{"a", "a"}, Columns: []api.Array{vector(1)}}, -1, api.ErrForm},
	{api.Table{Names: []string{"A"}, Columns: []api.Array{{}, {}}}, -1, api.ErrForm},

	{of(column{"", vector(1)}), 0, api.ErrForm},
	{of(column{"Mark", vector(1)}), 0, api.ErrForm},
	{of(column{"a", vector(1)}, column{"1a", vector(1)}), 1, api.ErrForm},
	{of(column{"a", vector(1)}, column{"a b", vector(1)}), 1, api.ErrForm},
	{of(column{"a", vector(1)}, column{"abcdefghijklmnopq", vector(1)}), 1, api.ErrForm},
	{of(column{"a\n", vector(1)}, column{"b", vector(1, 2)}), 0, api.ErrForm},
	{of(column{"é", number(5)}), 0, api.ErrForm}, // the name comes before the array
	{of(column{"A", vector(1)}, column{"A", vector(1)}), 0, api.ErrForm},

	{of(column{"a", vector(1)}, column{"a", vector(1)}), 1, api.ErrTwice},
	{of(column{"a", vector(1)}, column{"b", vector(1)}, column{"a", text(65)}), 2, api.ErrTwice},
	{of(column{"a", vector(1)}, column{"a", vector(1)}, column{"b", number(1)}), 1, api.ErrTwice},
	{of(column{"a", vector(1)}, column{"a", api.Array{}}), 1, api.ErrTwice}, // this comes before the array, too
	{of(column{"a", vector(1)}, column{"a", number(5)}), 1, api.ErrTwice},
	{of(column{"a", vector(1)}, column{"a", vector(1, 2)}), 1, api.ErrTwice},
	{of(append(named(15, text(65)), column{"a14", text(65)})...), 15, api.ErrTwice},

	{of(column{"a", api.Array{}}), 0, api.ErrArg},
	{of(column{"a", vector(1)}, column{"b", api.Array{Kind: 3, Rank: 1, Lens: pair{1, 0}, Cells: []int64{1}}}), 1, api.ErrArg},
	{of(column{"a", ints(1, pair{2, 0}, 1)}), 0, api.ErrForm},
	{of(column{"a", vector(1)}, column{"b", ints(1, pair{1, 1}, 1)}), 1, api.ErrForm},
	{of(column{"a", ints(1, pair{-1, 0})}), 0, api.ErrRange},
	{of(column{"a", ints(3, pair{1, 0}, 1)}), 0, api.ErrRange},
	{of(column{"a", text(65)}, column{"b", text(55296)}), 1, api.ErrRange},
	{of(column{"a", text(-1)}), 0, api.ErrRange},
	{of(column{"a", text(1114112)}, column{"a", vector(1)}), 0, api.ErrRange},
	{of(column{"a", vector(make([]int64, 401)...)}), 0, api.ErrCells},
	{of(column{"a", vector(1)}, column{"b", ints(2, pair{21, 20}, make([]int64, 420)...)}), 1, api.ErrCells}, // before its rank
	{of(column{"a", vector(1)}, column{"b", text(65, 55296)}), 1, api.ErrRange},                              // before its length
	{of(column{"a", chars(0, pair{}, 55296)}), 0, api.ErrRange},

	{of(column{"a", number(5)}), 0, api.ErrRank},
	{of(column{"a", ints(2, pair{1, 1}, 5)}), 0, api.ErrRank},
	{of(column{"a", vector(1)}, column{"b", chars(0, pair{}, 65)}), 1, api.ErrRank},
	{of(column{"a", vector(1, 2)}, column{"b", ints(2, pair{2, 1}, 5, 6)}), 1, api.ErrRank},
	{of(column{"a", vector(1, 2)}, column{"b", number(5)}, column{"c", vector(1)}), 1, api.ErrRank}, // before its length
	{of(column{"a", vector()}, column{"b", ints(2, pair{0, 0})}), 1, api.ErrRank},

	{of(column{"a", vector(1)}, column{"b", vector()}), 1, api.ErrLength},
	{of(column{"a", vector()}, column{"b", text(65)}), 1, api.ErrLength},
	{of(column{"a", vector(1, 2)}, column{"b", text(65, 66)}, column{"c", vector(1, 2, 3)}), 2, api.ErrLength},
	{of(column{"a", vector(1, 2)}, column{"b", vector(1)}, column{"c", vector(1)}), 1, api.ErrLength},
	{of(column{"a", vector(1)}, column{"b", vector(1, 2)}, column{"b", vector(1)}), 1, api.ErrLength},
	{of(append(named(15, vector(1, 2)), column{"b", vector(1)})...), 15, api.ErrLength},
}

// allTables has those of both lists.
func allTables() []api.Table {
	list := goodTables()
	for _, x := range badTables {
		list = append(list, x.t)
	}
	return list
}

// someNames has names that tables have, some that none of them has, and what is no name.
var someNames = []string{"mark", "name", "a", "b", "c", "a-", "abcdefghijklmnop", "part", "a0", "a1", "a14", "a15", "zebra", "", "A", "mark ", "Mark", "a 0", "é", "abcdefghijklmnopq"}

// What follows goes by the chapter's definitions.

var nameForm = regexp.MustCompile(`^[a-z][a-z0-9-]{0,15}\z`)

func faultOf(t api.Table) (int, api.Errno) {
	switch {
	case len(t.Names) > 16:
		return -1, api.ErrLong
	case len(t.Names) != len(t.Columns):
		return -1, api.ErrForm
	}
	for i, a := range t.Columns {
		switch f := arrays.Check(a); {
		case !nameForm.MatchString(t.Names[i]):
			return i, api.ErrForm
		case slices.Contains(t.Names[:i], t.Names[i]):
			return i, api.ErrTwice
		case f != api.OK:
			return i, f
		case a.Rank != 1:
			return i, api.ErrRank
		case a.Lens[0] != t.Columns[0].Lens[0]:
			return i, api.ErrLength
		}
	}
	return 0, api.OK
}

// placeOf returns the index of a column, with the errors that come before what a function does with it.
func placeOf(t api.Table, name string) (int, api.Errno) {
	if _, e := faultOf(t); e != api.OK {
		return 0, e
	}
	i := slices.Index(t.Names, name)
	if i < 0 {
		return 0, api.ErrNone
	}
	return i, api.OK
}

// heightOf returns how many rows a table without a fault has.
func heightOf(t api.Table) int {
	if len(t.Columns) == 0 {
		return 0
	}
	return t.Columns[0].Lens[0]
}

// rowOf returns what the columns have at one place.
func rowOf(t api.Table, row int) []int64 {
	var l []int64
	for _, a := range t.Columns {
		l = append(l, a.Cells[row])
	}
	return l
}

// takenFrom returns the table that has rows of a table without a fault, row by row.
func takenFrom(t api.Table, rows []int) api.Table {
	u := api.Table{Names: slices.Clone(t.Names)}
	for _, a := range t.Columns {
		u.Columns = append(u.Columns, api.Array{Kind: a.Kind, Rank: 1})
	}
	for _, row := range rows {
		for i, cell := range rowOf(t, row) {
			u.Columns[i].Cells = append(u.Columns[i].Cells, cell)
			u.Columns[i].Lens[0]++
		}
	}
	return u
}

// orderOf puts each row where it belongs: behind as many as come before it.
func orderOf(cells []int64) []int {
	rows := make([]int, len(cells))
	for row, cell := range cells {
		before := 0
		for i, other := range cells {
			if other < cell || other == cell && i < row {
				before++
			}
		}
		rows[before] = row
	}
	return rows
}

func equal(a, b api.Array) bool {
	return a.Kind == b.Kind && a.Rank == b.Rank && a.Lens == b.Lens && slices.Equal(a.Cells, b.Cells)
}

func same(t, u api.Table) bool {
	return slices.Equal(t.Names, u.Names) && slices.EqualFunc(t.Columns, u.Columns, equal)
}

// is fails the test if a table is not the wanted one, or nothing beside an error.
func is(t *testing.T, name string, got api.Table, e api.Errno, want api.Table, f api.Errno) {
	t.Helper()
	if f != api.OK {
		want = api.Table{}
	}
	if e != f || !same(got, want) {
		t.Errorf("%s: %v, %d, want %v, %d", name, got, e, want, f)
	}
}

// must returns a table that has no error beside it.
func must(t *testing.T) func(u api.Table, e api.Errno) api.Table {
	return func(u api.Table, e api.Errno) api.Table {
		t.Helper()
		if e != api.OK {
			t.Fatalf("error %d", e)
		}
		return u
	}
}

// deep returns a copy of a table that shares no memory with it.
func deep(t api.Table) api.Table {
	u := api.Table{Names: slices.Clone(t.Names), Columns: slices.Clone(t.Columns)}
	for i := range u.Columns {
		u.Columns[i].Cells = slices.Clone(u.Columns[i].Cells)
	}
	return u
}
