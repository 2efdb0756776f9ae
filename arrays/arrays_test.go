package arrays_test

import (
	"math"
	"slices"
	"strconv"
	"strings"
	"testing"

	"invigilator/api"
	"invigilator/arrays"
	"invigilator/shapes"
)

type pair = [2]int

// ints and chars return arrays with these parts, whatever they are.
func ints(rank int, lens pair, cells ...int64) api.Array {
	return api.Array{Kind: api.KInt, Rank: rank, Lens: lens, Cells: cells}
}

func chars(rank int, lens pair, cells ...int64) api.Array {
	return api.Array{Kind: api.KChar, Rank: rank, Lens: lens, Cells: cells}
}

// runeEdges has runes next to the numbers that are none, and notRunes such numbers; the last ones are runes in 32 bits.
var (
	runeEdges = []int64{0, 1, 65, 127, 128, 2047, 2048, 0xD7FF, 0xE000, 0xFFFD, 0xFFFE, 0xFFFF, 0x10000, 0x10FFFF}
	notRunes  = []int64{-1, 0xD800, 0xDB80, 0xDFFF, 0x110000, math.MinInt64, math.MaxInt64, math.MaxInt32, math.MinInt32, 1<<32 + 65, -1<<32 + 65}
)

// intEdges has numbers at the ends of 64 bits, and some that are no runes.
var intEdges = []int64{0, 1, -1, 55296, 1114112, 1 << 32, math.MaxInt64, math.MinInt64}

// someShapes has shapes of all ranks, with few, many and no cells.
var someShapes = []struct {
	rank int
	lens pair
}{
	{0, pair{}},
	{1, pair{0, 0}}, {1, pair{1, 0}}, {1, pair{3, 0}}, {1, pair{400, 0}},
	{2, pair{0, 0}}, {2, pair{0, 7}}, {2, pair{7, 0}}, {2, pair{1, 1}}, {2, pair{1, 3}}, {2, pair{3, 1}}, {2, pair{2, 3}}, {2, pair{3, 2}},
	{2, pair{20, 20}}, {2, pair{400, 0}}, {2, pair{0, 400}}, {2, pair{400, 1}}, {2, pair{1, 400}},
}

// someArrays has arrays of both kinds with these shapes; all cells of an array differ, if it has not more than there are edges.
func someArrays() []api.Array {
	var list []api.Array
	for _, s := range someShapes {
		n, _ := shapes.Cells(s.rank, s.lens)
		var numbers, letters []int64
		for i := range n {
			numbers = append(numbers, intEdges[len(intEdges)-1-i%len(intEdges)]+int64(i/len(intEdges)))
			letters = append(letters, runeEdges[len(runeEdges)-1-i%len(runeEdges)])
		}
		list = append(list, ints(s.rank, s.lens, numbers...), chars(s.rank, s.lens, letters...))
	}
	return list
}

func repeat(n int, v int64) []int64 { return slices.Repeat([]int64{v}, n) }

// badArrays has what is no array, with what Check returns.
var badArrays = []struct {
	a api.Array
	e api.Errno
}{
	{api.Array{}, api.ErrArg},
	{api.Array{Kind: 3, Cells: []int64{0}}, api.ErrArg},
	{api.Array{Kind: -1, Cells: []int64{0}}, api.ErrArg},
	{api.Array{Kind: math.MinInt, Cells: []int64{0}}, api.ErrArg},
	{api.Array{Kind: 1<<32 + 1, Cells: []int64{0}}, api.ErrArg},
	// The kind comes before the shape, and the cells.
	{api.Array{Kind: 3, Rank: 3}, api.ErrArg},
	{api.Array{Kind: 0, Rank: 1, Lens: pair{401, 0}}, api.ErrArg},
	{api.Array{Kind: 0, Rank: 1, Lens: pair{2, 0}, Cells: []int64{-1}}, api.ErrArg},

	{ints(3, pair{}), api.ErrRange},
	{ints(-1, pair{}), api.ErrRange},
	{ints(math.MaxInt, pair{}), api.ErrRange},
	{chars(math.MinInt, pair{}), api.ErrRange},
	{ints(1, pair{-1, 0}), api.ErrRange},
	{chars(2, pair{3, -1}), api.ErrRange},
	{ints(0, pair{1, 0}, 5), api.ErrForm},
	{ints(1, pair{1, 1}, 5), api.ErrForm},
	{chars(1, pair{1, -1}, 65), api.ErrForm},
	{ints(1, pair{401, 0}, repeat(401, 1)...), api.ErrCells},
	{chars(2, pair{21, 20}, repeat(420, 65)...), api.ErrCells},
	{ints(2, pair{401, 0}), api.ErrCells},
	{ints(2, pair{1 << 62, 4}), api.ErrCells},
	// The shape comes before the cells.
	{ints(2, pair{-1, 2}, 1, 2), api.ErrRange},
	{ints(1, pair{401, 0}, 5), api.ErrCells},
	{chars(1, pair{401, 0}, repeat(401, -1)...), api.ErrCells},

	{ints(1, pair{2, 0}, 5), api.ErrForm},
	{ints(1, pair{2, 0}, 5, 6, 7), api.ErrForm},
	{ints(1, pair{2, 0}), api.ErrForm},
	{ints(1, pair{0, 0}, 5), api.ErrForm},
	{ints(0, pair{}), api.ErrForm},
	{ints(0, pair{}, 5, 6), api.ErrForm},
	{ints(2, pair{2, 3}, 1, 2, 3, 4, 5), api.ErrForm},
	{ints(2, pair{2, 3}, 1, 2, 3, 4, 5, 6, 7), api.ErrForm},
	{ints(2, pair{0, 7}, 1), api.ErrForm},
	{chars(0, pair{}), api.ErrForm},
	{chars(1, pair{3, 0}, 65, 66), api.ErrForm},
	{chars(1, pair{0, 0}, 65), api.ErrForm},
	{chars(2, pair{2, 2}, repeat(401, 65)...), api.ErrForm},
	// How many cells there are comes before what they are.
	{chars(1, pair{1, 0}, -1, -1), api.ErrForm},
	{chars(1, pair{3, 0}, 55296), api.ErrForm},

	{chars(0, pair{}, 55296), api.ErrRange},
	{chars(0, pair{}, -1), api.ErrRange},
	{chars(0, pair{}, 1114112), api.ErrRange},
	{chars(1, pair{3, 0}, 57343, 65, 66), api.ErrRange},
	{chars(1, pair{3, 0}, 65, math.MinInt64, 66), api.ErrRange},
	{chars(1, pair{3, 0}, 65, 66, 1<<32+65), api.ErrRange},
	{chars(2, pair{2, 2}, 65, 66, 67, -1), api.ErrRange},
	{chars(1, pair{400, 0}, append(repeat(399, 65), math.MaxInt64)...), api.ErrRange},
}

// kept returns a function that fails the test if the arrays have changed since.
func kept(t *testing.T, list ...api.Array) func() {
	t.Helper()
	var before []api.Array
	for _, a := range list {
		a.Cells = slices.Clone(a.Cells)
		before = append(before, a)
	}
	return func() {
		t.Helper()
		for i, a := range list {
			if !equal(a, before[i]) {
				t.Errorf("an argument has changed: %v, was %v", a, before[i])
			}
		}
	}
}

// equal says by itself whether all parts are equal, so that it can be asked about what Same says.
func equal(a, b api.Array) bool {
	return a.Kind == b.Kind && a.Rank == b.Rank && a.Lens == b.Lens && slices.Equal(a.Cells, b.Cells)
}

// is fails the test if an array is not the wanted one, or nothing beside an error.
func is(t *testing.T, name string, a api.Array, e api.Errno, want api.Array, f api.Errno) {
	t.Helper()
	if f != api.OK {
		want = api.Array{}
	}
	if e != f || !equal(a, want) {
		t.Errorf("%s: %v, %d, want %v, %d", name, a, e, want, f)
	}
}

// P6.1: Check, Make and Zero.

// madeOf compares Check and Make for an array with these parts.
func madeOf(t *testing.T, a api.Array, want api.Errno) {
	t.Helper()
	check := kept(t, a)
	if e := arrays.Check(a); e != want {
		t.Errorf("Check of %v: %d, want %d", a, e, want)
	}
	b, e := arrays.Make(a.Kind, a.Rank, a.Lens, a.Cells)
	is(t, "Make", b, e, a, want)
	check()
}

func TestMake(t *testing.T) {
	for _, a := range someArrays() {
		madeOf(t, a, api.OK)
	}
	for _, x := range badArrays {
		madeOf(t, x.a, x.e)
	}
	madeOf(t, chars(0, pair{}, 65), api.OK)
	madeOf(t, ints(0, pair{}, 55296), api.OK)
	madeOf(t, ints(1, pair{0, 0}, []int64{}...), api.OK)
	madeOf(t, ints(2, pair{20, 20}, repeat(400, -1)...), api.OK)
	madeOf(t, chars(2, pair{20, 20}, repeat(400, 0x10FFFF)...), api.OK)
}

// TestCheckOfShapes compares Check with its promise, for many shapes and numbers of cells.
func TestCheckOfShapes(t *testing.T) {
	for _, kind := range []int{0, api.KInt, api.KChar, 3, -1, math.MinInt, math.MaxInt} {
		for rank := -1; rank <= 3; rank++ {
			for a := -1; a <= 5; a++ {
				for b := -1; b <= 5; b++ {
					for many := range 27 {
						lens := pair{a, b}
						n, want := shapes.Cells(rank, lens)
						if want == api.OK && n != many {
							want = api.ErrForm
						}
						if kind != api.KInt && kind != api.KChar {
							want = api.ErrArg
						}
						madeOf(t, api.Array{Kind: kind, Rank: rank, Lens: lens, Cells: repeat(many, 65)}, want)
					}
				}
			}
		}
	}
}

func TestCheckOfRunes(t *testing.T) {
	lists := map[api.Errno][]int64{api.OK: runeEdges, api.ErrRange: notRunes}
	for want, list := range lists {
		for _, v := range list {
			madeOf(t, chars(0, pair{}, v), want)
			madeOf(t, ints(0, pair{}, v), api.OK)
			for at := range 4 {
				cells := []int64{65, 233, 8364, 128512}
				cells[at] = v
				madeOf(t, chars(1, pair{4, 0}, cells...), want)
				madeOf(t, chars(2, pair{2, 2}, cells...), want)
				madeOf(t, ints(2, pair{2, 2}, cells...), api.OK)
			}
		}
	}
}

func TestMakeIsNew(t *testing.T) {
	cells := []int64{5, 6, 7, 8, 9}
	a, _ := arrays.Make(api.KInt, 1, pair{3, 0}, cells[:3])
	b, _ := arrays.Make(api.KInt, 1, pair{3, 0}, cells[:3])
	cells[0] = 1
	b.Cells[1] = 2
	_ = append(a.Cells, 3)
	if !equal(a, ints(1, pair{3, 0}, 5, 6, 7)) || !slices.Equal(cells, []int64{1, 6, 7, 8, 9}) {
		t.Errorf("Make keeps its argument: %v, %v", a, cells)
	}
}

func TestZero(t *testing.T) {
	for _, kind := range []int{api.KInt, api.KChar} {
		for rank := range 3 {
			want := api.Array{Kind: kind, Rank: rank}
			if rank == 0 {
				want.Cells = []int64{0}
			}
			a, e := arrays.Zero(kind, rank)
			is(t, "Zero", a, e, want, api.OK)
			if e := arrays.Check(a); e != api.OK {
				t.Errorf("Check of Zero(%d, %d): %d", kind, rank, e)
			}
			for i := range a.Cells {
				a.Cells[i] = 1
			}
			a, e = arrays.Zero(kind, rank)
			is(t, "Zero again", a, e, want, api.OK)
		}
		for _, rank := range []int{-1, 3, 4, 1 << 32, math.MinInt, math.MaxInt} {
			a, e := arrays.Zero(kind, rank)
			is(t, "Zero of no rank", a, e, api.Array{}, api.ErrRange)
		}
	}
	for _, kind := range []int{0, 3, -1, math.MinInt, math.MaxInt, 1<<32 + 1} {
		for _, rank := range []int{0, 1, 2, -1, 3, math.MaxInt} { // the kind comes first
			a, e := arrays.Zero(kind, rank)
			is(t, "Zero of no kind", a, e, api.Array{}, api.ErrArg)
		}
	}
}

// P6.2: Int, Ints, Text and Matrix.

func TestInt(t *testing.T) {
	for _, n := range append(slices.Clone(intEdges), 5, -7, 400, 401, math.MaxInt32) {
		a := arrays.Int(n)
		is(t, "Int", a, arrays.Check(a), ints(0, pair{}, n), api.OK)
		a.Cells[0]++
		is(t, "Int again", arrays.Int(n), api.OK, ints(0, pair{}, n), api.OK)
	}
}

func TestInts(t *testing.T) {
	for _, x := range []struct {
		list []int64
		e    api.Errno
	}{
		{nil, api.OK},
		{[]int64{}, api.OK},
		{[]int64{5}, api.OK},
		{[]int64{5, 6, 7}, api.OK},
		{intEdges, api.OK},
		{notRunes, api.OK},
		{repeat(399, -1), api.OK},
		{repeat(400, 1), api.OK},
		{repeat(401, 1), api.ErrCells},
		{repeat(402, -1), api.ErrCells},
		{repeat(70000, 0), api.ErrCells},
	} {
		before := slices.Clone(x.list)
		a, e := arrays.Ints(x.list)
		is(t, "Ints", a, e, ints(1, pair{len(x.list), 0}, x.list...), x.e)
		if e == api.OK && arrays.Check(a) != api.OK {
			t.Errorf("Check of Ints: %d", arrays.Check(a))
		}
		for i := range a.Cells {
			a.Cells[i]++
		}
		_ = append(a.Cells, 1)
		if !slices.Equal(x.list, before) {
			t.Errorf("Ints keeps its argument")
		}
	}
}

func TestText(t *testing.T) {
	vector := func(cells ...int64) api.Array { return chars(1, pair{len(cells), 0}, cells...) }
	for s, want := range map[string]api.Array{
		"":                         vector(),
		"é!":                       vector(233, 33),
		"A":                        vector(65),
		"a b\n\x00\"\x7f":          vector(97, 32, 98, 10, 0, 34, 127),
		"€😀":                       vector(8364, 128512),
		"\xef\xbf\xbd":             vector(0xFFFD), // the rune that stands for bytes that are none
		"a\xef\xbf\xbdb":           vector(97, 0xFFFD, 98),
		"\xef\xbb\xbfa":            vector(0xFEFF, 97),
		"e\xcc\x81":                vector(101, 0x301),
		"\xed\x9f\xbf\xee\x80\x80": vector(0xD7FF, 0xE000),
		"\xf4\x8f\xbf\xbf":         vector(0x10FFFF),
		"\xf0\x90\x80\x80":         vector(0x10000),
		strings.Repeat("a", 400):   vector(repeat(400, 97)...),
		strings.Repeat("é", 400):   vector(repeat(400, 233)...),
		strings.Repeat("😀", 400):   vector(repeat(400, 128512)...),
	} {
		a, e := arrays.Text(s)
		is(t, "Text", a, e, want, api.OK)
		if e := arrays.Check(a); e != api.OK {
			t.Errorf("Check of Text(%q): %d", s, e)
		}
	}
	for _, s := range []string{"a", "é", "€", "😀", "\xef\xbf\xbd"} {
		for _, n := range []int{401, 402, 3000, 8000, 8001, 9000, 100000} {
			a, e := arrays.Text(strings.Repeat(s, n))
			is(t, "Text of too many", a, e, api.Array{}, api.ErrCells)
		}
	}
}

func TestTextOfNoRunes(t *testing.T) {
	bad := []string{
		"\xff", "\xfe", "\x80", "\xbf", "\xc3", "\xe2", "\xe2\x82", "\xf0\x9f\x98", // begun, or gone on with
		"\xc0\x80", "\xc1\xbf", "\xe0\x80\x80", "\xe0\x9f\xbf", "\xf0\x80\x80\x80", "\xf0\x8f\xbf\xbf", // longer than they need
		"\xed\xa0\x80", "\xed\xbf\xbf", "\xed\xa0\xbd\xed\xb8\x80", // of numbers that are no runes
		"\xf4\x90\x80\x80", "\xf5\x80\x80\x80", "\xf8\x88\x80\x80\x80", "\xfc\x84\x80\x80\x80\x80",
		"\xc3(", "\xe2\x82(", "\xe2(\xac", "\xc3\xa9\xa9", "\xef\xbf",
	}
	for _, s := range bad {
		for _, text := range []string{
			s, "a" + s, s + "a", "é" + s + "é", "\xef\xbf\xbd" + s, s + "\xef\xbf\xbd", s + s,
			// A fault of the form comes before too many cells, wherever it is.
			strings.Repeat("a", 399) + s, strings.Repeat("a", 400) + s, strings.Repeat("a", 401) + s, strings.Repeat("a", 9000) + s,
			s + strings.Repeat("a", 400), s + strings.Repeat("a", 9000),
		} {
			a, e := arrays.Text(text)
			is(t, "Text of "+strconv.QuoteToASCII(s), a, e, api.Array{}, api.ErrForm)
		}
	}
}

// bytesOf returns the bytes of a rune, by the table of chapter 2.
func bytesOf(r int64) string {
	tail := func(n int64) byte { return byte(128 + n%64) }
	switch {
	case r < 128:
		return string([]byte{byte(r)})
	case r < 2048:
		return string([]byte{byte(192 + r/64), tail(r)})
	case r < 65536:
		return string([]byte{byte(224 + r/4096), tail(r / 64), tail(r)})
	}
	return string([]byte{byte(240 + r/262144), tail(r / 4096), tail(r / 64), tail(r)})
}

// TestTextOfEachRune goes through all runes, and through the numbers between them, which have no bytes.
func TestTextOfEachRune(t *testing.T) {
	for r := range int64(0x110000) {
		s := bytesOf(r)
		a, e := arrays.Text(s)
		if 0xD800 <= r && r <= 0xDFFF {
			is(t, "Text of no rune", a, e, api.Array{}, api.ErrForm)
			continue
		}
		is(t, "Text of a rune", a, e, chars(1, pair{1, 0}, r), api.OK)
		if back, e := arrays.String(chars(1, pair{1, 0}, r)); back != s || e != api.OK {
			t.Errorf("String of %d: %q, %d", r, back, e)
		}
	}
}

// TestTextOfShortStrings goes through all strings of one and two bytes.
func TestTextOfShortStrings(t *testing.T) {
	want := map[string][]int64{}
	for r := range int64(2048) {
		want[bytesOf(r)] = []int64{r}
	}
	for a := range int64(128) {
		for b := range int64(128) {
			want[bytesOf(a)+bytesOf(b)] = []int64{a, b}
		}
	}
	ask := func(s string) {
		cells, ok := want[s]
		f := api.ErrForm
		if ok {
			f = api.OK
		}
		a, e := arrays.Text(s)
		is(t, "Text of a short string", a, e, chars(1, pair{len(cells), 0}, cells...), f)
	}
	for a := range 256 {
		ask(string([]byte{byte(a)}))
		for b := range 256 {
			ask(string([]byte{byte(a), byte(b)}))
		}
	}
}

func TestMatrix(t *testing.T) {
	equalRows := func(many, size int) [][]int64 { return slices.Repeat([][]int64{repeat(size, 7)}, many) }
	for _, x := range []struct {
		rows [][]int64
		want api.Array
		e    api.Errno
	}{
		{[][]int64{{1, 2}, {3, 4}}, ints(2, pair{2, 2}, 1, 2, 3, 4), api.OK},
		{[][]int64{{1, 2, 3}, {4, 5, 6}}, ints(2, pair{2, 3}, 1, 2, 3, 4, 5, 6), api.OK},
		{[][]int64{{1, 2}, {3, 4}, {5, 6}}, ints(2, pair{3, 2}, 1, 2, 3, 4, 5, 6), api.OK},
		{[][]int64{{math.MinInt64}}, ints(2, pair{1, 1}, math.MinInt64), api.OK},
		{nil, ints(2, pair{0, 0}), api.OK},
		{[][]int64{}, ints(2, pair{0, 0}), api.OK},
		{[][]int64{nil}, ints(2, pair{1, 0}), api.OK},
		{[][]int64{{}, nil, {}}, ints(2, pair{3, 0}), api.OK},
		{equalRows(400, 0), ints(2, pair{400, 0}), api.OK},
		{equalRows(400, 1), ints(2, pair{400, 1}, repeat(400, 7)...), api.OK},
		{equalRows(1, 400), ints(2, pair{1, 400}, repeat(400, 7)...), api.OK},
		{equalRows(20, 20), ints(2, pair{20, 20}, repeat(400, 7)...), api.OK},
		{[][]int64{{1, 2}, {3}}, api.Array{}, api.ErrLength},
		{[][]int64{{1}, {2, 3}}, api.Array{}, api.ErrLength},
		{[][]int64{nil, {1}}, api.Array{}, api.ErrLength},
		{[][]int64{{1}, nil}, api.Array{}, api.ErrLength},
		{[][]int64{{1, 2}, {3, 4}, {5, 6, 7}}, api.Array{}, api.ErrLength},
		{[][]int64{{1, 2}, {3, 4, 5}, {6, 7}}, api.Array{}, api.ErrLength},
		{append(equalRows(399, 1), nil), api.Array{}, api.ErrLength},
		{equalRows(401, 0), api.Array{}, api.ErrCells},
		{equalRows(401, 1), api.Array{}, api.ErrCells},
		{equalRows(1, 401), api.Array{}, api.ErrCells},
		{equalRows(21, 20), api.Array{}, api.ErrCells},
		{equalRows(20, 21), api.Array{}, api.ErrCells},
		{equalRows(400, 2), api.Array{}, api.ErrCells},
		{equalRows(2, 201), api.Array{}, api.ErrCells},
		{equalRows(2, 70000), api.Array{}, api.ErrCells},
		// How many rows there are comes before their lengths, and these before how many cells there are.
		{append(equalRows(400, 1), nil), api.Array{}, api.ErrCells},
		{[][]int64{repeat(401, 1), repeat(402, 1)}, api.Array{}, api.ErrLength},
		{[][]int64{repeat(401, 1), nil}, api.Array{}, api.ErrLength},
		{append(equalRows(21, 20), repeat(19, 1)), api.Array{}, api.ErrLength},
	} {
		before := slices.Concat(x.rows...)
		a, e := arrays.Matrix(x.rows)
		is(t, "Matrix", a, e, x.want, x.e)
		if e == api.OK && arrays.Check(a) != api.OK {
			t.Errorf("Check of Matrix: %d", arrays.Check(a))
		}
		for i := range a.Cells {
			a.Cells[i]++
		}
		if !slices.Equal(slices.Concat(x.rows...), before) {
			t.Errorf("Matrix keeps its argument")
		}
	}
}
