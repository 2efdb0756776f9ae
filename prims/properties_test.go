package prims_test

import (
	"slices"
	"testing"

	"invigilator/api"
	"invigilator/arrays"
	"invigilator/prims"
	"invigilator/shapes"
)

// someShapes has shapes of all ranks, with few, many and no cells, and some with as many cells as others.
var someShapes = []struct {
	rank int
	lens pair
}{
	{0, pair{}},
	{1, pair{0, 0}}, {1, pair{1, 0}}, {1, pair{2, 0}}, {1, pair{4, 0}}, {1, pair{399, 0}}, {1, pair{400, 0}},
	{2, pair{0, 0}}, {2, pair{0, 2}}, {2, pair{2, 0}}, {2, pair{0, 400}}, {2, pair{1, 1}}, {2, pair{2, 2}}, {2, pair{2, 3}}, {2, pair{1, 4}},
	{2, pair{20, 20}}, {2, pair{2, 200}},
}

// good returns arrays of both kinds with all these shapes: small numbers, which are lengths and places, too; the ends of the numbers; and runes.
func good() []api.Array {
	var all []api.Array
	for _, s := range someShapes {
		many, _ := shapes.Cells(s.rank, s.lens)
		for _, x := range []struct {
			kind  int
			cells []int64
		}{
			{api.KInt, []int64{2, 1, 0, 3}},
			{api.KInt, []int64{0, 401, 1, 20}},
			{api.KInt, []int64{-1, 5}},
			{api.KInt, []int64{21, 20}},
			{api.KInt, []int64{least, greatest, -1}},
			{api.KInt, []int64{greatest, greatest, least}},
			{api.KChar, []int64{97, 98, 97, 0x10FFFF}},
			{api.KChar, []int64{0, 0xE000}},
		} {
			cells := slices.Repeat(x.cells, many/len(x.cells)+1)[:many:many]
			all = append(all, api.Array{Kind: x.kind, Rank: s.rank, Lens: s.lens, Cells: cells})
		}
	}
	return all
}

// few returns those of them that have few cells.
func few() []api.Array {
	return slices.DeleteFunc(good(), func(a api.Array) bool { return len(a.Cells) > 6 })
}

// everyList calls do with all lists of so many of these arrays, which are good ones.
func everyList(many int, of []api.Array, do func(l []api.Array)) {
	for _, a := range of {
		if many == 1 {
			do(list(a))
			continue
		}
		for _, b := range of {
			do(list(a, b))
		}
	}
}

// partsOf returns the kinds and the ranks of arrays.
func partsOf(l []api.Array) (kinds, ranks []int) {
	for _, a := range l {
		kinds, ranks = append(kinds, a.Kind), append(ranks, a.Rank)
	}
	return kinds, ranks
}

// cellsOf returns copies of the cells of arrays, with what is behind them.
func cellsOf(l []api.Array) [][]int64 {
	var all [][]int64
	for _, a := range l {
		all = append(all, slices.Clone(a.Cells[:cap(a.Cells)]))
	}
	return all
}

func same(a, b [][]int64) bool { return slices.EqualFunc(a, b, slices.Equal) }

// P12.3, for all operands: Do is the function of its layer.

func TestDoIsItsFunction(t *testing.T) {
	all := good()
	for p := 1; p <= api.MaxPrim; p++ {
		everyList(arityOf(p), all, func(l []api.Array) {
			want, f := functionOf(p, l)
			a, e := prims.Do(p, l)
			if !equal(a, want) || e != f {
				t.Errorf("Do of %s, %v: %v, %d, want %v, %d", nameOf(p), l, a, e, want, f)
			}
			if e != api.OK && !equal(a, api.Array{}) {
				t.Errorf("Do of %s, %v: %v beside error %d", nameOf(p), l, a, e)
			}
		})
	}
}

// P12.5: fits.

// TestFitsAndDo asks Fits and Do about the same operands. All errors that Errors has must come of some of them, or it would have too many.
func TestFitsAndDo(t *testing.T) {
	all := good()
	for p := 1; p <= api.MaxPrim; p++ {
		may, _ := prims.Errors(p)
		came := map[api.Errno]bool{}
		everyList(arityOf(p), all, func(l []api.Array) {
			kinds, ranks := partsOf(l)
			kind, rank, f := prims.Fits(p, kinds, ranks)
			a, e := prims.Do(p, l)
			if f != api.OK {
				if e != f {
					t.Errorf("Do of %s, %v: %d, but Fits %d", nameOf(p), l, e, f)
				}
				return
			}
			if came[e] = true; e != api.OK {
				if !slices.Contains(may, e) {
					t.Errorf("Do of %s, %v: error %d is none of %v", nameOf(p), l, e, may)
				}
				return
			}
			if a.Kind != kind || a.Rank != rank || arrays.Check(a) != api.OK {
				t.Errorf("Do of %s, %v: %v, but Fits %d, %d", nameOf(p), l, a, kind, rank)
			}
		})
		for _, e := range append(may, api.OK) {
			if !came[e] {
				t.Errorf("%s never has error %d", nameOf(p), e)
			}
		}
	}
}

// P12.6: names, arguments, memory.

func TestNames(t *testing.T) {
	seen := map[string]bool{}
	for p := 1; p <= api.MaxPrim; p++ {
		name, e := prims.Name(p)
		if e != api.OK || seen[name] || len(name) < 2 || len(name) > 7 {
			t.Errorf("Name of %d: %q, %d", p, name, e)
		}
		for _, b := range []byte(name) {
			if b < 'a' || b > 'z' {
				t.Errorf("Name of %d: %q has another byte than small letters", p, name)
			}
		}
		if found, e := prims.Find(name); found != p || e != api.OK {
			t.Errorf("Find of %q: %d, %d, want %d", name, found, e, p)
		}
		seen[name] = true
	}
}

// TestArguments keeps what Fits and Do are given, and what is behind it.
func TestArguments(t *testing.T) {
	for p := 1; p <= api.MaxPrim; p++ {
		many := arityOf(p)
		each(many, []int{0, 1, 2, 3}, func(kinds []int) {
			each(many, []int{0, 1, 2, 3}, func(ranks []int) {
				k, r := append(slices.Clone(kinds), 7), append(slices.Clone(ranks), 7)
				prims.Fits(p, k[:many], r[:many])
				if !slices.Equal(k, append(kinds, 7)) || !slices.Equal(r, append(ranks, 7)) {
					t.Errorf("Fits of %s, %v, %v has changed them: %v, %v", nameOf(p), kinds, ranks, k, r)
				}
			})
		})
		everyList(many, few(), func(l []api.Array) {
			longer := append(slices.Clone(l), number(7))
			before := cellsOf(longer)
			prims.Do(p, longer[:many])
			if !slices.EqualFunc(longer[:many], l, equal) || !equal(longer[many], number(7)) || !same(cellsOf(longer), before) {
				t.Errorf("Do of %s, %v has changed them: %v", nameOf(p), l, longer)
			}
		})
	}
}

// roomy returns an array with a copy of the cells, and memory behind them.
func roomy(a api.Array) api.Array {
	a.Cells = append(slices.Grow(slices.Clone(a.Cells), 20), 7)[:len(a.Cells)]
	return a
}

func scribble(cells []int64) {
	for i := range cells {
		cells[i] = -77
	}
}

// TestNewMemory writes over a result, and over the operands after the call: neither must be seen in the other, nor in the result of the same call again. Both operands may be one array.
func TestNewMemory(t *testing.T) {
	all := few()
	ask := func(p int, l []api.Array) {
		a, e := prims.Do(p, l)
		if e != api.OK {
			return
		}
		before, first := cellsOf(l), slices.Clone(a.Cells)
		scribble(a.Cells[:cap(a.Cells)])
		if !same(cellsOf(l), before) {
			t.Errorf("the result of %s of %v shares memory with them", nameOf(p), l)
		}
		if a, _ = prims.Do(p, l); !slices.Equal(a.Cells, first) {
			t.Errorf("%s of %v: %v, and then %v", nameOf(p), l, first, a.Cells)
		}
		for _, operand := range l {
			scribble(operand.Cells[:cap(operand.Cells)])
		}
		if !slices.Equal(a.Cells, first) {
			t.Errorf("%s keeps its operands", nameOf(p))
		}
	}
	for p := 1; p <= api.MaxPrim; p++ {
		everyList(arityOf(p), all, func(l []api.Array) {
			for place, a := range l {
				l[place] = roomy(a)
			}
			ask(p, l)
		})
		for _, a := range all {
			a = roomy(a)
			ask(p, slices.Repeat(list(a), arityOf(p)))
		}
	}
}

// TestErrorsMemory writes over lists of errors: those of the same call again, and of other primitives, stay.
func TestErrorsMemory(t *testing.T) {
	for p := 1; p <= api.MaxPrim; p++ {
		l, _ := prims.Errors(p)
		l = l[:cap(l)]
		for place := range l {
			l[place] = -77
		}
		for q := 1; q <= api.MaxPrim; q++ {
			if l, e := prims.Errors(q); e != api.OK || !slices.Equal(l, errorsOf(q)) {
				t.Errorf("Errors of %s, after those of %s were written over: %v, %d", nameOf(q), nameOf(p), l, e)
			}
		}
	}
}
