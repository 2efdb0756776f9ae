package lattice_test

import (
	"math"
	"slices"
	"strings"
	"testing"
	"unsafe"

	"invigilator/api"
	"invigilator/lattice"
)

// of returns a lattice: the names are separated by blanks, and so are the rows.
func of(names, rows string) api.Lattice {
	l := api.Lattice{Names: strings.Fields(names)}
	for _, row := range strings.Fields(rows) {
		var n uint8
		for b, c := range row {
			if c == '1' {
				n += uint8(math.Pow(2, float64(b)))
			}
		}
		l.Up = append(l.Up, n)
	}
	return l
}

// letters names so many labels.
func letters(n int) []string { return strings.Fields("a b c d e f g h i j")[:n] }

// diamond is the lattice D of the chapter.
func diamond() api.Lattice { return of("low ann bob top", "1111 0101 0011 0001") }

// cube has the subsets of three things; the number of a label is its subset, xor the given one, so that the bottom may be anywhere.
func cube(mix int) api.Lattice {
	l := api.Lattice{Names: letters(8), Up: make([]uint8, 8)}
	for a := range 8 {
		for b := range 8 {
			if (a^mix)&^(b^mix) == 0 {
				l.Up[a] |= 1 << b
			}
		}
	}
	return l
}

// squares are matrices of so many labels each: all that have each label at or below itself.
func squares(n int, f func(api.Lattice)) {
	for bits := range 1 << (n * (n - 1)) {
		l := api.Lattice{Names: letters(n), Up: make([]uint8, n)}
		for a := range n {
			for b := range n {
				if a == b {
					l.Up[a] |= 1 << b
					continue
				}
				l.Up[a] |= uint8(bits&1) << b
				bits >>= 1
			}
		}
		f(l)
	}
}

// lattices has all lattices of at most 4 labels, and greater ones.
func lattices() []api.Lattice {
	list := []api.Lattice{
		diamond(),
		of("n-1 n-2 n-3 n-4 n-5", "11111 01101 00101 00011 00001"), // a pentagon
		of("c0 c1 c2 c3 c4 c5 c6 c7", "11111111 01111111 00111111 00011111 00001111 00000111 00000011 00000001"),
		of("m0 m1 m2 m3 m4 m5 m6 m7", "11111111 01000001 00100001 00010001 00001001 00000101 00000011 00000001"),
		of("m7 m1 m2 m3 m4 m5 m6 m0", "10000000 11000000 10100000 10010000 10001000 10000100 10000010 11111111"),
		cube(0), cube(5), cube(7),
	}
	for n := 1; n <= 4; n++ {
		squares(n, func(l api.Lattice) {
			if _, e := checked(l); e == api.OK {
				list = append(list, l)
			}
		})
	}
	return list
}

// below reports whether a is at or below b, both labels.
func below(l api.Lattice, a, b int) bool {
	return int(l.Up[a])/int(math.Pow(2, float64(b)))%2 == 1
}

// onlyOne returns the one label that is so, and whether there is just one.
func onlyOne(l api.Lattice, so func(c int) bool) (int, bool) {
	var found []int
	for c := range l.Names {
		if so(c) {
			found = append(found, c)
		}
	}
	if len(found) != 1 {
		return 0, false
	}
	return found[0], true
}

// each reports whether all labels are so.
func each(l api.Lattice, so func(c int) bool) bool {
	for c := range l.Names {
		if !so(c) {
			return false
		}
	}
	return true
}

// joinOf and meetOf go by the chapter's definitions.

func joinOf(l api.Lattice, a, b int) (int, bool) {
	upper := func(c int) bool { return below(l, a, c) && below(l, b, c) }
	return onlyOne(l, func(c int) bool {
		return upper(c) && each(l, func(o int) bool { return !upper(o) || below(l, c, o) })
	})
}

func meetOf(l api.Lattice, a, b int) (int, bool) {
	lower := func(c int) bool { return below(l, c, a) && below(l, c, b) }
	return onlyOne(l, func(c int) bool {
		return lower(c) && each(l, func(o int) bool { return !lower(o) || below(l, o, c) })
	})
}

// ordered reports whether the order is as stated for a label.
func ordered(l api.Lattice, a int) bool {
	return int(l.Up[a]) < int(math.Pow(2, float64(len(l.Names)))) && below(l, a, a) && each(l, func(b int) bool {
		if !below(l, a, b) {
			return true
		}
		return (a == b || !below(l, b, a)) && each(l, func(c int) bool { return !below(l, b, c) || below(l, a, c) })
	})
}

// checked is what Check returns for good names and as many numbers.
func checked(l api.Lattice) (int, api.Errno) {
	for a := range l.Names {
		if !ordered(l, a) {
			return a, api.ErrForm
		}
	}
	for a := range l.Names {
		for b := range l.Names {
			_, join := joinOf(l, a, b)
			_, meet := meetOf(l, a, b)
			if !join || !meet {
				return a, api.ErrNone
			}
		}
	}
	return 0, api.OK
}

func same(a, b api.Lattice) bool { return slices.Equal(a.Names, b.Names) && slices.Equal(a.Up, b.Up) }

func isZero(l api.Lattice) bool { return len(l.Names) == 0 && len(l.Up) == 0 }

// P3.1: Check.

// faults has lattices that are none, each with what Check returns.
var faults = []struct {
	l     api.Lattice
	label int
	e     api.Errno
}{
	{api.Lattice{}, -1, api.ErrLong},
	{api.Lattice{Names: []string{}, Up: []uint8{1}}, -1, api.ErrLong},
	{api.Lattice{Names: letters(9), Up: make([]uint8, 9)}, -1, api.ErrLong},
	{api.Lattice{Names: letters(9), Up: make([]uint8, 8)}, -1, api.ErrLong},
	{api.Lattice{Names: slices.Repeat([]string{""}, 9)}, -1, api.ErrLong},

	{api.Lattice{Names: []string{""}, Up: []uint8{1}}, 0, api.ErrForm},
	{api.Lattice{Names: []string{"a", "B"}}, 1, api.ErrForm},
	{api.Lattice{Names: []string{"a", "b c", "a"}}, 1, api.ErrForm},
	{api.Lattice{Names: []string{"a", "a", "b c"}}, 1, api.ErrTwice},
	{api.Lattice{Names: []string{"a", "b", "1"}}, 2, api.ErrForm},
	{api.Lattice{Names: []string{"a", "b", "a", "b"}}, 2, api.ErrTwice},
	{api.Lattice{Names: []string{"b", "a", "b"}}, 2, api.ErrTwice},
	{api.Lattice{Names: []string{"1", "1"}}, 0, api.ErrForm},
	{api.Lattice{Names: []string{"abcdefghijklmnopq"}, Up: []uint8{1}}, 0, api.ErrForm},

	{api.Lattice{Names: letters(1)}, -1, api.ErrForm},
	{api.Lattice{Names: letters(1), Up: []uint8{1, 1}}, -1, api.ErrForm},
	{api.Lattice{Names: letters(2), Up: []uint8{3}}, -1, api.ErrForm},
	{api.Lattice{Names: letters(2), Up: []uint8{3, 2, 4}}, -1, api.ErrForm},
	{api.Lattice{Names: letters(8), Up: make([]uint8, 9)}, -1, api.ErrForm},
	{api.Lattice{Names: letters(1), Up: make([]uint8, 300)}, -1, api.ErrForm},

	{api.Lattice{Names: letters(1), Up: []uint8{0}}, 0, api.ErrForm},
	{api.Lattice{Names: letters(1), Up: []uint8{3}}, 0, api.ErrForm},
	{api.Lattice{Names: letters(1), Up: []uint8{129}}, 0, api.ErrForm},
	{api.Lattice{Names: letters(2), Up: []uint8{3, 0}}, 1, api.ErrForm},
	{api.Lattice{Names: letters(2), Up: []uint8{3, 6}}, 1, api.ErrForm}, // the bit is a fault of the label that has it
	{api.Lattice{Names: letters(2), Up: []uint8{3, 130}}, 1, api.ErrForm},
	{of("a b", "11 11"), 0, api.ErrForm},
	{of("a b c", "100 011 011"), 1, api.ErrForm},
	{of("a b c", "110 011 001"), 0, api.ErrForm},
	{of("a b c", "100 010 111"), 0, api.ErrNone},
	{of("c b a", "100 110 011"), 2, api.ErrForm},
	{of("a b c d", "1111 0111 0011 1001"), 0, api.ErrForm},
	{of("a b c d", "1111 0101 0011 0101"), 1, api.ErrForm},
	{of("a b c", "111 010 000"), 2, api.ErrForm}, // the order comes before joins
	{of("a b c d e", "11111 01101 00101 00011 10001"), 0, api.ErrForm},

	{of("a b", "10 01"), 0, api.ErrNone},
	{of("low ann bob", "111 010 001"), 1, api.ErrNone},
	{of("ann bob top", "101 011 001"), 0, api.ErrNone},
	{of("ann top bob", "110 010 011"), 0, api.ErrNone},
	{of("low top ann bob end", "11110 01000 01100 01010 00001"), 0, api.ErrNone},
	{of("low a b c d top", "111111 010111 001111 000101 000011 000001"), 1, api.ErrNone}, // bounds, but no least one
	{of("top c d a b low", "100000 110000 101000 111100 111010 111111"), 1, api.ErrNone},
}

func TestCheckFaults(t *testing.T) {
	for i, x := range faults {
		if label, e := lattice.Check(x.l); label != x.label || e != x.e {
			t.Errorf("%d: Check(%v): %d, %d, want %d, %d", i, x.l, label, e, x.label, x.e)
		}
	}
}

func TestCheckOfLattices(t *testing.T) {
	for _, l := range lattices() {
		if label, e := lattice.Check(l); label != 0 || e != api.OK {
			t.Errorf("Check(%v): %d, %d", l, label, e)
		}
	}
}

// compareCheck compares Check with the rule of the test, for labels with these numbers.
func compareCheck(t *testing.T, up []uint8) {
	t.Helper()
	l := api.Lattice{Names: letters(len(up)), Up: up}
	want, f := checked(l)
	if label, e := lattice.Check(l); label != want || e != f {
		t.Fatalf("Check(%v): %d, %d, want %d, %d", up, label, e, want, f)
	}
}

func TestCheckOfAllNumbers(t *testing.T) {
	for n := 1; n <= 2; n++ {
		for bits := range 1 << (8 * n) {
			compareCheck(t, []uint8{uint8(bits), uint8(bits >> 8)}[:n])
		}
	}
	for bits := range 1 << 12 { // of 3 labels, with a bit of none
		compareCheck(t, []uint8{uint8(bits & 15), uint8(bits >> 4 & 15), uint8(bits >> 8)})
	}
}

// TestCheckOfAllSquares also compares how many lattices there are with a list of these numbers (A055512 of the OEIS).
func TestCheckOfAllSquares(t *testing.T) {
	for i, many := range []int{1, 2, 6, 36, 380} {
		n, found := i+1, 0
		squares(n, func(l api.Lattice) {
			_, e := lattice.Check(l)
			if e == api.OK {
				found++
			}
			if n == 5 && e == api.ErrForm { // too many for the slow rule
				return
			}
			compareCheck(t, l.Up)
		})
		if found != many {
			t.Errorf("of %d labels: %d lattices, want %d", n, found, many)
		}
	}
}

// P3.3: Leq, Join, Meet, Bottom, Top and Find.

func TestDiamond(t *testing.T) {
	const low, ann, bob, top = 0, 1, 2, 3
	l := diamond()
	for _, x := range []struct {
		a, b int
		leq  bool
		join int
		meet int
	}{{low, bob, true, bob, low}, {bob, low, false, bob, low}, {ann, bob, false, top, low}, {bob, ann, false, top, low}, {ann, ann, true, ann, ann}, {ann, top, true, top, ann}, {top, low, false, top, low}} {
		leq, e := lattice.Leq(l, x.a, x.b)
		join, f := lattice.Join(l, x.a, x.b)
		meet, g := lattice.Meet(l, x.a, x.b)
		if leq != x.leq || join != x.join || meet != x.meet || e != api.OK || f != api.OK || g != api.OK {
			t.Errorf("%d, %d: %v, %d, %d, %d, %d, %d", x.a, x.b, leq, join, meet, e, f, g)
		}
	}
	bottom, e := lattice.Bottom(l)
	end, f := lattice.Top(l)
	if bottom != low || end != top || e != api.OK || f != api.OK {
		t.Errorf("bottom %d, top %d, %d, %d", bottom, end, e, f)
	}
}

func TestOfTwoLabels(t *testing.T) {
	for _, l := range lattices() {
		for a := range l.Names {
			for b := range l.Names {
				wantJoin, _ := joinOf(l, a, b)
				wantMeet, _ := meetOf(l, a, b)
				leq, e := lattice.Leq(l, a, b)
				join, f := lattice.Join(l, a, b)
				meet, g := lattice.Meet(l, a, b)
				if leq != below(l, a, b) || join != wantJoin || meet != wantMeet || e != api.OK || f != api.OK || g != api.OK {
					t.Errorf("of %v, %d, %d: %v, %d, %d, %d, %d, %d", l, a, b, leq, join, meet, e, f, g)
				}
			}
		}
	}
}

func TestBottomAndTop(t *testing.T) {
	for _, l := range lattices() {
		bottom, e := lattice.Bottom(l)
		if e != api.OK || !each(l, func(c int) bool { return below(l, bottom, c) }) {
			t.Errorf("Bottom(%v): %d, %d", l, bottom, e)
		}
		top, e := lattice.Top(l)
		if e != api.OK || !each(l, func(c int) bool { return below(l, c, top) }) {
			t.Errorf("Top(%v): %d, %d", l, top, e)
		}
	}
}

func TestFind(t *testing.T) {
	for _, l := range lattices() {
		for want, name := range l.Names {
			if label, e := lattice.Find(l, name); label != want || e != api.OK {
				t.Errorf("Find(%v, %q): %d, %d", l, name, label, e)
			}
		}
		for _, name := range []string{"", "eve", "A", "low ", "lo", "lowe", "a b", "\x00", strings.Repeat("a", 5000)} {
			if label, e := lattice.Find(l, name); label != 0 || e != api.ErrNone {
				t.Errorf("Find(%v, %.20q): %d, %d", l, name, label, e)
			}
		}
	}
}

func TestNoLabels(t *testing.T) {
	for _, l := range lattices() {
		n := len(l.Names)
		for _, no := range []int{-1, n, n + 1, 8, 64, 256, math.MaxInt, math.MinInt} {
			for _, x := range [][2]int{{no, 0}, {0, no}, {no, no}, {no, n - 1}, {n - 1, no}} {
				leq, e := lattice.Leq(l, x[0], x[1])
				join, f := lattice.Join(l, x[0], x[1])
				meet, g := lattice.Meet(l, x[0], x[1])
				if leq || join != 0 || meet != 0 || e != api.ErrRange || f != api.ErrRange || g != api.ErrRange {
					t.Errorf("of %v, %v: %v, %d, %d, %d, %d, %d", l, x, leq, join, meet, e, f, g)
				}
			}
		}
	}
}

// TestNoLattices shows that the error of Check comes before all others.
func TestNoLattices(t *testing.T) {
	for i, x := range faults {
		for _, a := range []int{0, 1, -1, 99} {
			leq, e := lattice.Leq(x.l, a, 0)
			join, f := lattice.Join(x.l, a, 0)
			meet, g := lattice.Meet(x.l, 0, a)
			if leq || join != 0 || meet != 0 || e != x.e || f != x.e || g != x.e {
				t.Errorf("%d: of %d: %v, %d, %d, %d, %d, %d, want %d", i, a, leq, join, meet, e, f, g, x.e)
			}
		}
		bottom, e := lattice.Bottom(x.l)
		top, f := lattice.Top(x.l)
		if bottom != 0 || top != 0 || e != x.e || f != x.e {
			t.Errorf("%d: bottom %d, top %d, %d, %d, want %d", i, bottom, top, e, f, x.e)
		}
		for _, name := range append([]string{"eve", "a", ""}, x.l.Names...) {
			if label, e := lattice.Find(x.l, name); label != 0 || e != x.e {
				t.Errorf("%d: Find: %d, %d, want %d", i, label, e, x.e)
			}
		}
		if pairs, e := lattice.Covers(x.l); len(pairs) > 0 || e != x.e {
			t.Errorf("%d: Covers: %v, %d, want %d", i, pairs, e, x.e)
		}
		if dual, e := lattice.Dual(x.l); !isZero(dual) || e != x.e {
			t.Errorf("%d: Dual: %v, %d, want %d", i, dual, e, x.e)
		}
		if text, e := lattice.Print(x.l); text != "" || e != x.e {
			t.Errorf("%d: Print: %q, %d, want %d", i, text, e, x.e)
		}
	}
}

// P3.4: Covers and Dual.

func TestCovers(t *testing.T) {
	for i, x := range []struct {
		l    api.Lattice
		want [][2]int
	}{
		{diamond(), [][2]int{{0, 1}, {0, 2}, {1, 3}, {2, 3}}},
		{of("a", "1"), nil},
		{of("a b", "11 01"), [][2]int{{0, 1}}},
		{of("a b", "10 11"), [][2]int{{1, 0}}},
		{of("a b c", "111 011 001"), [][2]int{{0, 1}, {1, 2}}},
		{of("a b c", "100 111 101"), [][2]int{{1, 2}, {2, 0}}},
		{of("a b c d e", "11111 01101 00101 00011 00001"), [][2]int{{0, 1}, {0, 3}, {1, 2}, {2, 4}, {3, 4}}},
		{cube(0), [][2]int{{0, 1}, {0, 2}, {0, 4}, {1, 3}, {1, 5}, {2, 3}, {2, 6}, {3, 7}, {4, 5}, {4, 6}, {5, 7}, {6, 7}}},
	} {
		if pairs, e := lattice.Covers(x.l); !slices.Equal(pairs, x.want) || e != api.OK {
			t.Errorf("%d: Covers: %v, %d, want %v", i, pairs, e, x.want)
		}
	}
}

func TestCoversOfLattices(t *testing.T) {
	for _, l := range lattices() {
		var want [][2]int
		for a := range l.Names {
			for b := range l.Names {
				between := func(c int) bool { return c != a && c != b && below(l, a, c) && below(l, c, b) }
				if a != b && below(l, a, b) && each(l, func(c int) bool { return !between(c) }) {
					want = append(want, [2]int{a, b})
				}
			}
		}
		if pairs, e := lattice.Covers(l); !slices.Equal(pairs, want) || e != api.OK {
			t.Errorf("Covers(%v): %v, %d, want %v", l, pairs, e, want)
		}
	}
}

func TestDual(t *testing.T) {
	for i, x := range []struct{ l, want api.Lattice }{
		{diamond(), of("low ann bob top", "1000 1100 1010 1111")},
		{of("a", "1"), of("a", "1")},
		{of("a b c", "111 011 001"), of("a b c", "100 110 111")},
		{cube(0), cube(7)},
	} {
		if dual, e := lattice.Dual(x.l); !same(dual, x.want) || e != api.OK {
			t.Errorf("%d: Dual: %v, %d, want %v", i, dual, e, x.want)
		}
	}
	for _, l := range lattices() {
		dual, e := lattice.Dual(l)
		if e != api.OK || !slices.Equal(dual.Names, l.Names) {
			t.Errorf("Dual(%v): %v, %d", l, dual, e)
			continue
		}
		for a := range l.Names {
			for b := range l.Names {
				if below(dual, a, b) != below(l, b, a) {
					t.Errorf("Dual(%v): %v", l, dual)
				}
			}
		}
	}
}

// join, meet and leq are for lattices and labels of which no errors come.

func join(l api.Lattice, a, b int) int { c, _ := lattice.Join(l, a, b); return c }

func meet(l api.Lattice, a, b int) int { c, _ := lattice.Meet(l, a, b); return c }

func leq(l api.Lattice, a, b int) bool { is, _ := lattice.Leq(l, a, b); return is }

// P3.6: bounds.

func TestBounds(t *testing.T) {
	for _, l := range lattices() {
		for a := range l.Names {
			for b := range l.Names {
				j, m := join(l, a, b), meet(l, a, b)
				if !leq(l, a, j) || !leq(l, b, j) || !leq(l, m, a) || !leq(l, m, b) {
					t.Errorf("of %v, %d, %d: join %d, meet %d", l, a, b, j, m)
				}
				for c := range l.Names {
					if leq(l, a, c) && leq(l, b, c) && !leq(l, j, c) || leq(l, c, a) && leq(l, c, b) && !leq(l, c, m) {
						t.Errorf("of %v, %d, %d: join %d, meet %d, but %d", l, a, b, j, m, c)
					}
				}
			}
		}
	}
}

// P3.7: algebra.

func TestAlgebra(t *testing.T) {
	for _, l := range lattices() {
		for a := range l.Names {
			if join(l, a, a) != a || meet(l, a, a) != a {
				t.Errorf("of %v: %d with itself", l, a)
			}
			for b := range l.Names {
				if join(l, a, b) != join(l, b, a) || meet(l, a, b) != meet(l, b, a) {
					t.Errorf("of %v: %d and %d do not commute", l, a, b)
				}
				if join(l, a, meet(l, a, b)) != a || meet(l, a, join(l, a, b)) != a {
					t.Errorf("of %v: %d does not absorb %d", l, a, b)
				}
				if leq(l, a, b) != (join(l, a, b) == b) || leq(l, a, b) != (meet(l, a, b) == a) {
					t.Errorf("of %v: %d and %d: Leq is not what Join says", l, a, b)
				}
				for c := range l.Names {
					if join(l, a, join(l, b, c)) != join(l, join(l, a, b), c) || meet(l, a, meet(l, b, c)) != meet(l, meet(l, a, b), c) {
						t.Errorf("of %v: %d, %d and %d do not associate", l, a, b, c)
					}
				}
			}
		}
	}
}

// P3.8: duals, the order by Covers, arguments and results.

func TestDuals(t *testing.T) {
	for _, l := range lattices() {
		dual, _ := lattice.Dual(l)
		if twice, e := lattice.Dual(dual); !same(twice, l) || e != api.OK {
			t.Errorf("Dual of Dual(%v): %v, %d", l, twice, e)
		}
		bottom, _ := lattice.Bottom(dual)
		top, _ := lattice.Top(l)
		if bottom != top {
			t.Errorf("of %v: the top is %d, the dual's bottom %d", l, top, bottom)
		}
		for a := range l.Names {
			for b := range l.Names {
				if join(dual, a, b) != meet(l, a, b) || meet(dual, a, b) != join(l, a, b) {
					t.Errorf("of %v, %d, %d: joins of the dual are no meets", l, a, b)
				}
			}
		}
	}
}

func TestOrderByCovers(t *testing.T) {
	for _, l := range lattices() {
		up := make([]uint8, len(l.Names))
		for a := range up {
			up[a] = 1 << a
		}
		pairs, _ := lattice.Covers(l)
		for range up { // a way up has fewer steps than there are labels
			for _, p := range pairs {
				up[p[0]] |= up[p[1]]
			}
		}
		if !slices.Equal(up, l.Up) {
			t.Errorf("of %v: Covers make the order %v", l, up)
		}
	}
}

// shares reports whether two strings begin at the same byte of memory.
func shares(a, b string) bool { return unsafe.StringData(a) == unsafe.StringData(b) }

func TestResultsAreFresh(t *testing.T) {
	l := diamond()
	for range 2 { // what is done to the first results does not come back in the second ones
		dual, _ := lattice.Dual(l)
		pairs, _ := lattice.Covers(l)
		if !same(dual, of("low ann bob top", "1000 1100 1010 1111")) || !slices.Equal(pairs, [][2]int{{0, 1}, {0, 2}, {1, 3}, {2, 3}}) {
			t.Errorf("%v, %v", dual, pairs)
		}
		for i, name := range dual.Names {
			if shares(name, l.Names[i]) {
				t.Errorf("the name %q shares the argument's memory", name)
			}
		}
		clear(dual.Names)
		clear(dual.Up)
		clear(pairs)
	}
	lattice.Check(l)
	lattice.Leq(l, 1, 2)
	lattice.Join(l, 1, 2)
	lattice.Meet(l, 1, 2)
	lattice.Bottom(l)
	lattice.Top(l)
	lattice.Find(l, "bob")
	lattice.Print(l)
	if !same(l, diamond()) {
		t.Errorf("the argument is now %v", l)
	}
}
