package folds_test

import (
	"slices"
	"testing"

	"invigilator/api"
	"invigilator/arrays"
	"invigilator/extend"
	"invigilator/folds"
	"invigilator/moves"
	"invigilator/scalars"
)

// must returns an array that has no error beside it.
func must(t *testing.T) func(a api.Array, e api.Errno) api.Array {
	return func(a api.Array, e api.Errno) api.Array {
		t.Helper()
		if e != api.OK {
			t.Fatalf("error %d", e)
		}
		return a
	}
}

// axes calls do with int arrays that have a last axis, big and small ones.
func axes(do func(a api.Array)) {
	for _, a := range goodInts() {
		if a.Rank > 0 {
			do(a)
		}
	}
	each([]int64{least, -1, 0, 2, greatest}, do)
}

// P11.3: sums.

func TestScanAndSum(t *testing.T) {
	axes(func(a api.Array) {
		sum, e := folds.Sum(a)
		scan, f := folds.Scan(a)
		if (e == api.OK) != (f == api.OK) {
			t.Errorf("Sum of %v: error %d, but Scan %d", a, e, f)
		}
		if e != api.OK || f != api.OK {
			return
		}
		if !arrays.Like(scan, a) {
			t.Fatalf("Scan of %v has another shape: %v", a, scan)
		}
		for i, row := range rowsOf(scan) {
			want := int64(0)
			if len(row) > 0 {
				want = row[len(row)-1]
			}
			if sum.Cells[i] != want {
				t.Errorf("Sum of %v: %v, but Scan %v", a, sum, scan)
			}
			before := int64(0)
			for j, n := range row {
				// It is the difference of two sums, so it overflows only if one of them is wrong.
				difference, e := scalars.Two(api.PrSub, n, before)
				if before = n; e != api.OK || difference != rowsOf(a)[i][j] {
					t.Errorf("Scan of %v: %v, with the difference %d, %d", a, scan, difference, e)
				}
			}
		}
	})
}

// P11.4: ends.

func TestEnds(t *testing.T) {
	axes(func(a api.Array) {
		low, e := folds.Least(a)
		high, f := folds.Most(a)
		if e != f {
			t.Errorf("Least of %v: error %d, but Most %d", a, e, f)
		}
		if e != api.OK || f != api.OK {
			return
		}
		for i, row := range rowsOf(a) {
			first, last := low.Cells[i], high.Cells[i]
			beyond := func(n int64) bool { return n < first || n > last }
			if !slices.Contains(row, first) || !slices.Contains(row, last) || slices.ContainsFunc(row, beyond) {
				t.Errorf("the ends of %v: %d, %d", row, first, last)
			}
		}
	})
}

func TestMostOfNeg(t *testing.T) {
	asked := 0
	axes(func(a api.Array) {
		turned, e := extend.One(api.PrNeg, a)
		if e != api.OK {
			return
		}
		asked++
		want, e := folds.Least(turned)
		if e == api.OK {
			want, e = extend.One(api.PrNeg, want)
		}
		b, f := folds.Most(a)
		is(t, "Most", a, b, f, want, e)
	})
	if asked == 0 {
		t.Error("no array has a neg")
	}
}

func TestReverse(t *testing.T) {
	turn := func(f fold, a api.Array) {
		want, e := f.do(a)
		b, g := f.do(must(t)(moves.Reverse(a)))
		is(t, f.name+" of reverse", a, b, g, want, e)
	}
	for _, f := range all() {
		switch f.name {
		case "Least", "Most":
			axes(func(a api.Array) { turn(f, a) })
		case "Count":
			axes(func(a api.Array) { turn(f, a) })
			for _, a := range goodChars() {
				if a.Rank > 0 {
					turn(f, a)
				}
			}
		}
	}
}

// P11.5: parts.

// vectors calls do with pairs of vectors that cat has room for: big and small ones, and ones of the ends of the numbers.
func vectors(do func(a, b api.Array)) {
	var list []api.Array
	for _, a := range goodInts() {
		if a.Rank == 1 {
			list = append(list, a)
		}
	}
	each([]int64{least, -1, 0, greatest}, func(a api.Array) {
		if a.Rank == 1 && len(a.Cells) <= 3 {
			list = append(list, a)
		}
	})
	for _, a := range list {
		for _, b := range list {
			if len(a.Cells)+len(b.Cells) <= api.MaxCells {
				do(a, b)
			}
		}
	}
}

func TestCat(t *testing.T) {
	for _, x := range []struct {
		name string
		do   func(a api.Array) (api.Array, api.Errno)
		p    int
	}{
		{"Sum", folds.Sum, api.PrAdd},
		{"Least", folds.Least, api.PrMin},
		{"Most", folds.Most, api.PrMax},
		{"Count", folds.Count, api.PrAdd},
	} {
		asked := 0
		vectors(func(a, b api.Array) {
			first, e := x.do(a)
			second, f := x.do(b)
			both := must(t)(moves.Cat(a, b))
			c, g := x.do(both)
			if e != api.OK || f != api.OK || g != api.OK {
				return
			}
			asked++
			want, e := extend.Two(x.p, first, second)
			is(t, x.name, both, c, g, want, e)
		})
		if asked < 1000 {
			t.Errorf("%s: only %d pairs without an error", x.name, asked)
		}
	}
}

// TestCatErrors asks of which pairs the parts have no errors: Least and Most have one of cat if both parts have it, Count never has, and Sum and Scan have the one of the first part.
func TestCatErrors(t *testing.T) {
	vectors(func(a, b api.Array) {
		both := must(t)(moves.Cat(a, b))
		for _, f := range all() {
			_, e := f.do(a)
			_, g := f.do(b)
			_, h := f.do(both)
			switch f.name {
			case "Least", "Most":
				if (h != api.OK) != (e != api.OK && g != api.OK) {
					t.Errorf("%s of %v, %v: errors %d, %d, but %d together", f.name, a, b, e, g, h)
				}
			case "Count":
				if e != api.OK || g != api.OK || h != api.OK {
					t.Errorf("Count of %v, %v: errors %d, %d, %d", a, b, e, g, h)
				}
			default:
				if e != api.OK && h != e {
					t.Errorf("%s of %v: error %d, but with %v behind it %d", f.name, a, e, b, h)
				}
			}
		}
	})
}

// TestRows takes matrices apart: a fold has an error if that of a row has one, and otherwise what those of its rows have, one after the other.
func TestRows(t *testing.T) {
	for _, f := range all() {
		apart := func(a api.Array) {
			if a.Rank != 2 || f.ints && a.Kind != api.KInt {
				return
			}
			var want []int64
			e := api.OK
			for _, row := range rowsOf(a) {
				b, g := f.do(api.Array{Kind: a.Kind, Rank: 1, Lens: pair{len(row), 0}, Cells: row})
				if want = append(want, b.Cells...); e == api.OK {
					e = g
				}
			}
			if e != api.OK {
				want = nil
			}
			b, g := f.do(a)
			if g != e || !slices.Equal(b.Cells, want) {
				t.Errorf("%s of %v: %v, %d, but its rows %v, %d", f.name, a, b, g, want, e)
			}
		}
		for _, a := range good() {
			apart(a)
		}
		each([]int64{least, -1, 0, 2, greatest}, apart)
	}
}

// P11.6: results are new memory.

// roomy returns an array with a copy of the cells, and memory behind them.
func roomy(a api.Array) api.Array {
	a.Cells = append(slices.Grow(slices.Clone(a.Cells), 500), 7)[:len(a.Cells)]
	return a
}

func scribble(cells []int64) {
	for i := range cells {
		cells[i] = -77
	}
}

// TestNewMemory writes over a result, and over the argument after the call: neither must be seen in the other, nor in the result of the same call again.
func TestNewMemory(t *testing.T) {
	for _, f := range all() {
		for _, a := range good() {
			a = roomy(a)
			b, e := f.do(a)
			if e != api.OK {
				continue
			}
			whole := a.Cells[:cap(a.Cells)]
			before, first := slices.Clone(whole), slices.Clone(b.Cells)
			scribble(b.Cells[:cap(b.Cells)])
			if !slices.Equal(whole, before) {
				t.Errorf("the result of %s of %v shares memory with its argument", f.name, a)
			}
			b, _ = f.do(a)
			if !slices.Equal(b.Cells, first) {
				t.Errorf("%s of %v: %v, and then %v", f.name, a, first, b.Cells)
			}
			scribble(whole)
			if !slices.Equal(b.Cells, first) {
				t.Errorf("%s keeps its argument", f.name)
			}
		}
	}
}
