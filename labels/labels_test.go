package labels_test

import (
	"math"
	"slices"
	"strings"
	"testing"

	"invigilator/api"
	"invigilator/labels"
	"invigilator/lattice"
)

// of returns the lattice with these names and rows, which are separated by blanks.
func of(names, rows string) api.Lattice {
	l, _, e := lattice.Make(strings.Fields(names), strings.Fields(rows))
	if e != api.OK {
		panic("no lattice: " + rows)
	}
	return l
}

// The labels of the lattice D of the chapter.
const (
	low = 0
	ann = 1
	bob = 2
	top = 3
)

func diamond() api.Lattice { return of("low ann bob top", "1111 0101 0011 0001") }

// pentagon has the bottom 4 and the top 1; the label 2 is below 0, and 3 is beside both.
func pentagon() api.Lattice { return of("n0 n1 n2 n3 n4", "11000 01000 11100 01010 11111") }

// falling has each label above those with greater numbers.
func falling() api.Lattice {
	return of("c0 c1 c2 c3 c4 c5 c6 c7", "10000000 11000000 11100000 11110000 11111000 11111100 11111110 11111111")
}

// many has the bottom 3 and the top 5, and six labels between them, which are beside each other.
func many() api.Lattice {
	return of("m0 m1 m2 m3 m4 m5 m6 m7", "10000100 01000100 00100100 11111111 00001100 00000100 00000110 00000101")
}

// cube has the subsets of three things; the subset of a label is its number, xor 5.
func cube() api.Lattice {
	l := api.Lattice{Names: strings.Fields("s0 s1 s2 s3 s4 s5 s6 s7"), Up: make([]uint8, 8)}
	for a := range 8 {
		for b := range 8 {
			if (a^5)&^(b^5) == 0 {
				l.Up[a] |= 1 << b
			}
		}
	}
	return l
}

// lattices has all lattices of at most 4 labels, and greater ones.
func lattices() []api.Lattice {
	list := []api.Lattice{pentagon(), falling(), many(), cube()}
	for n := 1; n <= 4; n++ {
		for bits := range 1 << (n * n) {
			l := api.Lattice{Names: strings.Fields("a b c d")[:n]}
			for a := range n {
				l.Up = append(l.Up, uint8(bits>>(n*a)&(1<<n-1)))
			}
			if _, e := lattice.Check(l); e == api.OK {
				list = append(list, l)
			}
		}
	}
	return list
}

// lists has all lists of so many labels of a lattice, or fewer.
func lists(l api.Lattice, most int) [][]int {
	all := [][]int{nil}
	for from := 0; most > 0; most-- {
		to := len(all)
		for _, list := range all[from:to] {
			for a := range l.Names {
				all = append(all, append(slices.Clone(list), a))
			}
		}
		from = to
	}
	return all
}

// eachList does something with many lists of many lattices: with all short ones, and with some long ones.
func eachList(do func(l api.Lattice, list []int)) {
	for _, l := range lattices() {
		n := len(l.Names)
		for _, list := range lists(l, 3) {
			do(l, list)
		}
		for step := range n {
			var long []int
			for i := range api.MaxLabelList {
				long = append(long, i*step%n)
			}
			do(l, long)
			do(l, long[:n])
		}
	}
}

// What follows goes by the chapter's definitions.

func below(l api.Lattice, a, b int) bool { return l.Up[a]&(1<<b) != 0 }

// flowsTo reports whether all labels of a list are at or below a label.
func flowsTo(l api.Lattice, list []int, to int) bool {
	return !slices.ContainsFunc(list, func(a int) bool { return !below(l, a, to) })
}

// isAbove reports whether all labels of a list are at or above a label.
func isAbove(l api.Lattice, list []int, a int) bool {
	return !slices.ContainsFunc(list, func(b int) bool { return !below(l, a, b) })
}

// where returns the labels that are so, by their numbers.
func where(l api.Lattice, so func(a int) bool) []int {
	var list []int
	for a := range l.Names {
		if so(a) {
			list = append(list, a)
		}
	}
	return list
}

// joinOf returns the one upper bound of a list that is at or below all of these.
func joinOf(l api.Lattice, list []int) int {
	upper := where(l, func(c int) bool { return flowsTo(l, list, c) })
	return where(l, func(c int) bool { return slices.Contains(upper, c) && isAbove(l, upper, c) })[0]
}

// meetOf returns the one lower bound of a list that is at or above all of these.
func meetOf(l api.Lattice, list []int) int {
	lower := where(l, func(c int) bool { return isAbove(l, list, c) })
	return where(l, func(c int) bool { return slices.Contains(lower, c) && flowsTo(l, lower, c) })[0]
}

func levelOf(l api.Lattice, a int) int {
	return len(where(l, func(b int) bool { return below(l, b, a) }))
}

// sortedOf returns the labels of a list level by level, each once.
func sortedOf(l api.Lattice, list []int) []int {
	var result []int
	for level := range len(l.Names) + 1 {
		for a := range l.Names {
			if levelOf(l, a) == level && slices.Contains(list, a) {
				result = append(result, a)
			}
		}
	}
	return result
}

func isChain(l api.Lattice, list []int) bool {
	for _, a := range list {
		for _, b := range list {
			if !below(l, a, b) && !below(l, b, a) {
				return false
			}
		}
	}
	return true
}

func leastOf(l api.Lattice, list []int) []int {
	return sortedOf(l, slices.DeleteFunc(slices.Clone(list), func(a int) bool {
		return slices.ContainsFunc(list, func(b int) bool { return a != b && below(l, b, a) })
	}))
}

// badLattices has lattices that are none, each with the error of lattice.Check.
var badLattices = []struct {
	l api.Lattice
	e api.Errno
}{
	{api.Lattice{}, api.ErrLong},
	{api.Lattice{Names: strings.Fields("a b c d e f g h i"), Up: make([]uint8, 9)}, api.ErrLong},
	{api.Lattice{Names: []string{""}, Up: []uint8{1}}, api.ErrForm},
	{api.Lattice{Names: []string{"a", "b", "C"}, Up: []uint8{7, 6, 4}}, api.ErrForm},
	{api.Lattice{Names: []string{"a", "b", "a"}, Up: []uint8{7, 6, 4}}, api.ErrTwice},
	{api.Lattice{Names: []string{"a", "b"}, Up: []uint8{3}}, api.ErrForm},
	{api.Lattice{Names: []string{"a", "b"}, Up: []uint8{3, 0}}, api.ErrForm},
	{api.Lattice{Names: []string{"a", "b"}, Up: []uint8{3, 3}}, api.ErrForm},
	{api.Lattice{Names: []string{"low", "ann", "bob"}, Up: []uint8{7, 2, 4}}, api.ErrNone},
}

// badLists has lists of D that are none, each with what Check returns.
var badLists = []struct {
	list []int
	at   int
	e    api.Errno
}{
	{make([]int, 65), -1, api.ErrLong},
	{slices.Repeat([]int{4}, 65), -1, api.ErrLong},
	{slices.Repeat([]int{-1}, 65), -1, api.ErrLong},
	{make([]int, 5000), -1, api.ErrLong},
	{[]int{4}, 0, api.ErrRange},
	{[]int{-1}, 0, api.ErrRange},
	{[]int{7}, 0, api.ErrRange},
	{[]int{8}, 0, api.ErrRange},
	{[]int{64}, 0, api.ErrRange},
	{[]int{256}, 0, api.ErrRange},
	{[]int{math.MaxInt}, 0, api.ErrRange},
	{[]int{math.MinInt}, 0, api.ErrRange},
	{[]int{top, 4, low}, 1, api.ErrRange},
	{[]int{top, bob, ann, -1, 4}, 3, api.ErrRange},
	{append(make([]int, 63), 4), 63, api.ErrRange},
	{append(make([]int, 63), -1), 63, api.ErrRange},
}

// noLabels has numbers that are those of no label of D.
var noLabels = []int{4, -1, 5, 8, 64, 256, math.MaxInt, math.MinInt}

// P4.1: Check.

func TestCheck(t *testing.T) {
	for _, x := range badLists {
		if at, e := labels.Check(diamond(), x.list); at != x.at || e != x.e {
			t.Errorf("Check of %d labels, %.20v: %d, %d, want %d, %d", len(x.list), x.list, at, e, x.at, x.e)
		}
	}
	for _, list := range [][]int{nil, {}, {low}, {top}, {bob, bob, low}, slices.Repeat([]int{top}, 64)} {
		if at, e := labels.Check(diamond(), list); at != 0 || e != api.OK {
			t.Errorf("Check(%v): %d, %d", list, at, e)
		}
	}
	eachList(func(l api.Lattice, list []int) {
		if at, e := labels.Check(l, list); at != 0 || e != api.OK {
			t.Errorf("of %v, Check(%v): %d, %d", l, list, at, e)
		}
	})
}

func TestCheckOfTheNextNumber(t *testing.T) {
	for _, l := range lattices() {
		n := len(l.Names)
		if at, e := labels.Check(l, []int{n - 1, n}); at != 1 || e != api.ErrRange {
			t.Errorf("of %v, Check(%d, %d): %d, %d", l, n-1, n, at, e)
		}
	}
}

// nothing fails a test if one of the functions with a list returns another error, or more than zero values.
func nothing(t *testing.T, l api.Lattice, list []int, want api.Errno) {
	t.Helper()
	join, e := labels.Join(l, list)
	meet, f := labels.Meet(l, list)
	chain, g := labels.Chain(l, list)
	if join != 0 || meet != 0 || chain || e != want || f != want || g != want {
		t.Errorf("of %v, %.20v: join %d, meet %d, chain %v, %d, %d, %d, want %d", l, list, join, meet, chain, e, f, g, want)
	}
	sorted, e := labels.Sort(l, list)
	least, f := labels.Least(l, list)
	text, g := labels.Show(l, list)
	if len(sorted) > 0 || len(least) > 0 || text != "" || e != want || f != want || g != want {
		t.Errorf("of %v, %.20v: sorted %v, least %v, text %q, %d, %d, %d, want %d", l, list, sorted, least, text, e, f, g, want)
	}
}

func TestBadLists(t *testing.T) {
	for _, x := range badLists {
		nothing(t, diamond(), x.list, x.e)
		for _, to := range []int{low, top, 4, -1, math.MaxInt} { // what is wrong with the list comes first
			if at, e := labels.Flows(diamond(), x.list, to); at != x.at || e != x.e {
				t.Errorf("Flows(%.20v, %d): %d, %d, want %d, %d", x.list, to, at, e, x.at, x.e)
			}
		}
	}
}

// TestBadLattices shows that the error of lattice.Check comes before all others, and that it is of no label of the list.
func TestBadLattices(t *testing.T) {
	for _, x := range badLattices {
		for _, list := range [][]int{nil, {0}, {0, 1, 0}, {99, -1}, make([]int, 65)} {
			if at, e := labels.Check(x.l, list); at != -1 || e != x.e {
				t.Errorf("of %v, Check(%.20v): %d, %d, want %d", x.l, list, at, e, x.e)
			}
			nothing(t, x.l, list, x.e)
			for _, to := range []int{0, 1, 99, -1} {
				if at, e := labels.Flows(x.l, list, to); at != -1 || e != x.e {
					t.Errorf("of %v, Flows(%.20v, %d): %d, %d, want %d", x.l, list, to, at, e, x.e)
				}
			}
		}
		for _, a := range []int{0, 1, 99, -1} {
			down, e := labels.Down(x.l, a)
			up, f := labels.Up(x.l, a)
			if len(down) > 0 || len(up) > 0 || e != x.e || f != x.e {
				t.Errorf("of %v, %d: down %v, up %v, %d, %d, want %d", x.l, a, down, up, e, f, x.e)
			}
		}
		for _, s := range []string{"-", "a", "a,a", "", "eve", "a,,a", strings.Repeat(",", 64)} {
			if list, e := labels.Read(x.l, s); len(list) > 0 || e != x.e {
				t.Errorf("of %v, Read(%.20q): %v, %d, want %d", x.l, s, list, e, x.e)
			}
		}
	}
}

// P4.2: Join, Meet and Flows.

func TestJoinAndMeet(t *testing.T) {
	for i, x := range []struct {
		l          api.Lattice
		list       []int
		join, meet int
	}{
		{diamond(), []int{ann, bob}, top, low},
		{diamond(), nil, low, top},
		{diamond(), []int{}, low, top},
		{diamond(), []int{top, ann}, top, ann},
		{diamond(), []int{bob, low, bob}, bob, low},
		{diamond(), []int{ann}, ann, ann},
		{diamond(), append(make([]int, 63), ann), ann, low},
		{of("a", "1"), nil, 0, 0},
		{of("a", "1"), []int{0, 0}, 0, 0},
		{pentagon(), nil, 4, 1},
		{pentagon(), []int{0, 2}, 0, 2},
		{pentagon(), []int{3, 2}, 1, 4},
		{falling(), nil, 7, 0},
		{falling(), []int{5, 3, 6}, 3, 6},
		{many(), nil, 3, 5},
		{many(), []int{7, 7}, 7, 7},
		{many(), []int{7, 0}, 5, 3},
		{cube(), []int{1, 4, 7}, 2, 5},
	} {
		join, e := labels.Join(x.l, x.list)
		meet, f := labels.Meet(x.l, x.list)
		if join != x.join || meet != x.meet || e != api.OK || f != api.OK {
			t.Errorf("%d: of %v: join %d, meet %d, %d, %d, want %d, %d", i, x.list, join, meet, e, f, x.join, x.meet)
		}
	}
	eachList(func(l api.Lattice, list []int) {
		join, e := labels.Join(l, list)
		meet, f := labels.Meet(l, list)
		if join != joinOf(l, list) || meet != meetOf(l, list) || e != api.OK || f != api.OK {
			t.Errorf("of %v, %v: join %d, meet %d, %d, %d", l, list, join, meet, e, f)
		}
	})
}

func TestFlows(t *testing.T) {
	for i, x := range []struct {
		l    api.Lattice
		list []int
		to   int
		at   int
		e    api.Errno
	}{
		{diamond(), []int{low, ann, bob}, ann, 2, api.ErrFlow},
		{diamond(), []int{low, ann, ann}, ann, 0, api.OK},
		{diamond(), []int{top, bob}, ann, 0, api.ErrFlow},
		{diamond(), []int{low, bob, top}, low, 1, api.ErrFlow},
		{diamond(), []int{top, ann, bob}, top, 0, api.OK},
		{diamond(), nil, low, 0, api.OK},
		{diamond(), []int{low}, low, 0, api.OK},
		{diamond(), append(make([]int, 63), top), bob, 63, api.ErrFlow},
		{pentagon(), []int{4, 2, 3}, 0, 2, api.ErrFlow},
		{pentagon(), []int{4, 2, 0}, 2, 2, api.ErrFlow},
		{falling(), []int{7, 6, 5}, 6, 2, api.ErrFlow},
	} {
		if at, e := labels.Flows(x.l, x.list, x.to); at != x.at || e != x.e {
			t.Errorf("%d: Flows(%v, %d): %d, %d, want %d, %d", i, x.list, x.to, at, e, x.at, x.e)
		}
	}
	for _, to := range noLabels {
		for _, list := range [][]int{nil, {low}, {top, ann}} {
			if at, e := labels.Flows(diamond(), list, to); at != -1 || e != api.ErrRange {
				t.Errorf("Flows(%v, %d): %d, %d", list, to, at, e)
			}
		}
	}
	eachList(func(l api.Lattice, list []int) {
		for to := range l.Names {
			want, f := 0, api.OK
			if !flowsTo(l, list, to) {
				want, f = slices.IndexFunc(list, func(a int) bool { return !below(l, a, to) }), api.ErrFlow
			}
			if at, e := labels.Flows(l, list, to); at != want || e != f {
				t.Errorf("of %v, Flows(%v, %d): %d, %d, want %d, %d", l, list, to, at, e, want, f)
			}
		}
	})
}

// P4.3: Down, Up and Sort.

func TestDownAndUp(t *testing.T) {
	for i, x := range []struct {
		l        api.Lattice
		a        int
		down, up []int
	}{
		{diamond(), ann, []int{low, ann}, []int{ann, top}},
		{diamond(), bob, []int{low, bob}, []int{bob, top}},
		{diamond(), low, []int{low}, []int{low, ann, bob, top}},
		{diamond(), top, []int{low, ann, bob, top}, []int{top}},
		{of("a", "1"), 0, []int{0}, []int{0}},
		{pentagon(), 1, []int{4, 2, 3, 0, 1}, []int{1}},
		{pentagon(), 4, []int{4}, []int{4, 2, 3, 0, 1}},
		{pentagon(), 2, []int{4, 2}, []int{2, 0, 1}},
		{falling(), 5, []int{7, 6, 5}, []int{5, 4, 3, 2, 1, 0}},
		{many(), 5, []int{3, 0, 1, 2, 4, 6, 7, 5}, []int{5}},
		{cube(), 1, []int{5, 1}, []int{1, 0, 3, 2}},
		{cube(), 2, []int{5, 1, 4, 7, 0, 3, 6, 2}, []int{2}},
	} {
		down, e := labels.Down(x.l, x.a)
		up, f := labels.Up(x.l, x.a)
		if !slices.Equal(down, x.down) || !slices.Equal(up, x.up) || e != api.OK || f != api.OK {
			t.Errorf("%d: of %d: down %v, up %v, %d, %d, want %v, %v", i, x.a, down, up, e, f, x.down, x.up)
		}
	}
	for _, a := range noLabels {
		down, e := labels.Down(diamond(), a)
		up, f := labels.Up(diamond(), a)
		if len(down) > 0 || len(up) > 0 || e != api.ErrRange || f != api.ErrRange {
			t.Errorf("of %d: down %v, up %v, %d, %d", a, down, up, e, f)
		}
	}
	for _, l := range lattices() {
		for a := range l.Names {
			down, e := labels.Down(l, a)
			up, f := labels.Up(l, a)
			wantDown := sortedOf(l, where(l, func(b int) bool { return below(l, b, a) }))
			wantUp := sortedOf(l, where(l, func(b int) bool { return below(l, a, b) }))
			if !slices.Equal(down, wantDown) || !slices.Equal(up, wantUp) || e != api.OK || f != api.OK {
				t.Errorf("of %v, %d: down %v, up %v, %d, %d, want %v, %v", l, a, down, up, e, f, wantDown, wantUp)
			}
		}
	}
}

func TestSort(t *testing.T) {
	for i, x := range []struct {
		l          api.Lattice
		list, want []int
	}{
		{diamond(), []int{top, bob, ann, bob}, []int{ann, bob, top}},
		{diamond(), nil, nil},
		{diamond(), []int{bob, bob}, []int{bob}},
		{diamond(), slices.Repeat([]int{top, bob, ann, low}, 16), []int{low, ann, bob, top}},
		{pentagon(), []int{0, 1, 2, 3, 4}, []int{4, 2, 3, 0, 1}},
		{pentagon(), []int{3, 0, 3}, []int{3, 0}}, // by levels, though neither is below the other one
		{falling(), []int{0, 7, 3, 5, 3}, []int{7, 5, 3, 0}},
		{many(), []int{7, 6, 5, 4, 3, 2, 1, 0}, []int{3, 0, 1, 2, 4, 6, 7, 5}},
		{cube(), []int{0, 1, 2, 3, 4, 5, 6, 7}, []int{5, 1, 4, 7, 0, 3, 6, 2}},
	} {
		if list, e := labels.Sort(x.l, x.list); !slices.Equal(list, x.want) || e != api.OK {
			t.Errorf("%d: Sort(%v): %v, %d, want %v", i, x.list, list, e, x.want)
		}
	}
	eachList(func(l api.Lattice, list []int) {
		if got, e := labels.Sort(l, list); !slices.Equal(got, sortedOf(l, list)) || e != api.OK {
			t.Errorf("of %v, Sort(%v): %v, %d", l, list, got, e)
		}
	})
}

// P4.4: Chain and Least.

func TestChain(t *testing.T) {
	for i, x := range []struct {
		l    api.Lattice
		list []int
		want bool
	}{
		{diamond(), []int{low, top, ann}, true},
		{diamond(), []int{ann, bob}, false},
		{diamond(), []int{ann, low, bob}, false}, // neighbours alone do not tell
		{diamond(), []int{ann, top, low, bob}, false},
		{diamond(), nil, true},
		{diamond(), []int{bob}, true},
		{diamond(), []int{bob, bob}, true},
		{pentagon(), []int{1, 2, 4, 0}, true},
		{pentagon(), []int{0, 3}, false},
		{falling(), []int{3, 7, 0, 1, 2, 4, 5, 6}, true},
		{many(), []int{6, 7}, false},
		{cube(), []int{2, 3, 7, 5}, true},
	} {
		if chain, e := labels.Chain(x.l, x.list); chain != x.want || e != api.OK {
			t.Errorf("%d: Chain(%v): %v, %d", i, x.list, chain, e)
		}
	}
	eachList(func(l api.Lattice, list []int) {
		if chain, e := labels.Chain(l, list); chain != isChain(l, list) || e != api.OK {
			t.Errorf("of %v, Chain(%v): %v, %d", l, list, chain, e)
		}
	})
}

func TestLeast(t *testing.T) {
	for i, x := range []struct {
		l          api.Lattice
		list, want []int
	}{
		{diamond(), []int{top, bob, ann}, []int{ann, bob}},
		{diamond(), nil, nil},
		{diamond(), []int{top, top}, []int{top}},
		{diamond(), []int{bob, ann, bob}, []int{ann, bob}},
		{diamond(), []int{bob, top, low, ann}, []int{low}},
		{pentagon(), []int{0, 3}, []int{3, 0}},
		{pentagon(), []int{0, 1, 2, 3}, []int{2, 3}},
		{falling(), []int{0, 1, 2, 3}, []int{3}},
		{many(), []int{7, 5, 0, 7}, []int{0, 7}},
		{cube(), []int{2, 6, 3, 0, 7}, []int{7, 0}},
	} {
		if least, e := labels.Least(x.l, x.list); !slices.Equal(least, x.want) || e != api.OK {
			t.Errorf("%d: Least(%v): %v, %d, want %v", i, x.list, least, e, x.want)
		}
	}
	eachList(func(l api.Lattice, list []int) {
		if least, e := labels.Least(l, list); !slices.Equal(least, leastOf(l, list)) || e != api.OK {
			t.Errorf("of %v, Least(%v): %v, %d", l, list, least, e)
		}
	})
}
