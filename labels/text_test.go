package labels_test

import (
	"slices"
	"strings"
	"testing"
	"unsafe"

	"invigilator/api"
	"invigilator/labels"
)

// P4.5: Show and Read.

func TestShow(t *testing.T) {
	for i, x := range []struct {
		list []int
		want string
	}{
		{[]int{ann, low}, "ann,low"},
		{nil, "-"},
		{[]int{}, "-"},
		{[]int{top}, "top"},
		{[]int{top, bob, ann, bob, top}, "top,bob,ann,bob,top"},
		{slices.Repeat([]int{bob}, 64), strings.Repeat("bob,", 63) + "bob"},
	} {
		if text, e := labels.Show(diamond(), x.list); text != x.want || e != api.OK {
			t.Errorf("%d: Show(%v): %q, %d", i, x.list, text, e)
		}
	}
}

func TestRead(t *testing.T) {
	for _, x := range []struct {
		s    string
		list []int
		e    api.Errno
	}{
		{"-", nil, api.OK},
		{"low", []int{low}, api.OK},
		{"ann,low", []int{ann, low}, api.OK},
		{"top,bob,ann,bob,top", []int{top, bob, ann, bob, top}, api.OK},
		{strings.Repeat("bob,", 63) + "bob", slices.Repeat([]int{bob}, 64), api.OK},

		{strings.Repeat("bob,", 64) + "bob", nil, api.ErrLong},
		{strings.Repeat("bob,", 64), nil, api.ErrLong},
		{strings.Repeat(",", 64), nil, api.ErrLong},
		{strings.Repeat("eve,", 64) + "eve", nil, api.ErrLong},
		{"-" + strings.Repeat(",", 64), nil, api.ErrLong},
		{strings.Repeat(",", 5000), nil, api.ErrLong},

		{strings.Repeat(",", 63), nil, api.ErrForm},
		{strings.Repeat("bob,", 63), nil, api.ErrForm},
		{"", nil, api.ErrForm},
		{",", nil, api.ErrForm},
		{"low,,ann", nil, api.ErrForm},
		{"low,", nil, api.ErrForm},
		{",low", nil, api.ErrForm},
		{"eve,", nil, api.ErrForm}, // an empty name comes before one of no label
		{",eve", nil, api.ErrForm},
		{"-,", nil, api.ErrForm},
		{",-", nil, api.ErrForm},

		{"eve", nil, api.ErrNone},
		{"low,eve,ann", nil, api.ErrNone},
		{strings.Repeat("eve,", 63) + "eve", nil, api.ErrNone},
		{"--", nil, api.ErrNone},
		{"-,-", nil, api.ErrNone},
		{"-,low", nil, api.ErrNone},
		{"low,-", nil, api.ErrNone},
		{" ", nil, api.ErrNone},
		{" -", nil, api.ErrNone},
		{"-\n", nil, api.ErrNone},
		{"low, ann", nil, api.ErrNone},
		{"low ,ann", nil, api.ErrNone},
		{"low,ann\n", nil, api.ErrNone},
		{"low;ann", nil, api.ErrNone},
		{"Low", nil, api.ErrNone},
		{"lo", nil, api.ErrNone},
		{"lowe", nil, api.ErrNone},
		{"0", nil, api.ErrNone},
		{"\x00", nil, api.ErrNone},
		{"\xff,é", nil, api.ErrNone},
		{strings.Repeat("a", 5000), nil, api.ErrNone},
	} {
		if list, e := labels.Read(diamond(), x.s); !slices.Equal(list, x.list) || e != x.e {
			t.Errorf("Read(%.40q) of %d bytes: %v, %d, want %v, %d", x.s, len(x.s), list, e, x.list, x.e)
		}
	}
}

// TestOtherNames has a lattice whose names are as long as they may be, and have hyphens.
func TestOtherNames(t *testing.T) {
	l := of("abcdefghijklmnop a- a--1", "111 011 001")
	text, e := labels.Show(l, []int{2, 0, 1})
	if text != "a--1,abcdefghijklmnop,a-" || e != api.OK {
		t.Errorf("Show: %q, %d", text, e)
	}
	if list, e := labels.Read(l, text); !slices.Equal(list, []int{2, 0, 1}) || e != api.OK {
		t.Errorf("Read: %v, %d", list, e)
	}
	if list, e := labels.Read(l, "abcdefghijklmnopq"); len(list) > 0 || e != api.ErrNone {
		t.Errorf("Read: %v, %d", list, e)
	}
}

// P4.6: joins.

// joined is for lists of which no error comes.
func joined(l api.Lattice, list []int) int { a, _ := labels.Join(l, list); return a }

func flows(l api.Lattice, list []int, to int) bool {
	_, e := labels.Flows(l, list, to)
	return e == api.OK
}

func TestJoinInAnyOrder(t *testing.T) {
	eachList(func(l api.Lattice, list []int) {
		want := joined(l, list)
		turned := slices.Clone(list)
		slices.Reverse(turned)
		if a := joined(l, turned); a != want {
			t.Errorf("of %v: the join of %v is %d, backwards %d", l, list, want, a)
		}
		step := joined(l, nil)
		for _, a := range list {
			step = joined(l, []int{step, a})
		}
		if step != want {
			t.Errorf("of %v: the join of %v is %d, label by label %d", l, list, want, step)
		}
	})
}

func TestJoinOfTwoLists(t *testing.T) {
	for _, l := range lattices() {
		for _, a := range lists(l, 2) {
			first := joined(l, a)
			for _, b := range lists(l, 2) {
				both := joined(l, append(slices.Clone(a), b...))
				if want := joined(l, []int{first, joined(l, b)}); both != want {
					t.Errorf("of %v: the join of %v and %v is %d, want %d", l, a, b, both, want)
				}
			}
		}
	}
}

func TestFlowsLabelByLabel(t *testing.T) {
	eachList(func(l api.Lattice, list []int) {
		join := joined(l, list)
		for to := range l.Names {
			each := !slices.ContainsFunc(list, func(a int) bool { return !flows(l, []int{a}, to) })
			if is := flows(l, list, to); is != each || is != flows(l, []int{join}, to) {
				t.Errorf("of %v: %v flows to %d: %v; each of its labels: %v; its join is %d", l, list, to, is, each, join)
			}
		}
	})
}

// P4.7: sorted lists.

func TestSortedLists(t *testing.T) {
	eachList(func(l api.Lattice, list []int) {
		sorted, _ := labels.Sort(l, list)
		chain, _ := labels.Chain(l, list)
		for i, b := range sorted {
			for _, a := range sorted[:i] {
				if below(l, b, a) || chain && !below(l, a, b) {
					t.Errorf("of %v: sorted, %v is %v (a chain: %v)", l, list, sorted, chain)
				}
			}
		}
	})
}

func TestLeastOnes(t *testing.T) {
	eachList(func(l api.Lattice, list []int) {
		least, _ := labels.Least(l, list)
		for _, a := range list {
			if !slices.ContainsFunc(least, func(b int) bool { return below(l, b, a) }) {
				t.Errorf("of %v: %d of %v is above none of %v", l, a, list, least)
			}
		}
		for i, b := range least {
			for _, a := range least[:i] {
				if below(l, a, b) || below(l, b, a) {
					t.Errorf("of %v: %d and %d are both among the least ones of %v", l, a, b, list)
				}
			}
		}
	})
}

// P4.8: Read of Show, arguments and results.

func TestReadOfShow(t *testing.T) {
	eachList(func(l api.Lattice, list []int) {
		text, e := labels.Show(l, list)
		if got, f := labels.Read(l, text); !slices.Equal(got, list) || e != api.OK || f != api.OK {
			t.Errorf("of %v: Read of Show(%v), %q: %v, %d, %d", l, list, text, got, e, f)
		}
	})
}

func TestArgumentsStay(t *testing.T) {
	l, list := diamond(), []int{top, bob, ann, bob, low}
	for range 2 {
		labels.Check(l, list)
		labels.Join(l, list)
		labels.Meet(l, list)
		labels.Flows(l, list, ann)
		labels.Down(l, top)
		labels.Up(l, low)
		labels.Sort(l, list)
		labels.Chain(l, list)
		labels.Least(l, list)
		labels.Show(l, list)
		labels.Read(l, "top,bob")
	}
	if want := diamond(); !slices.Equal(l.Names, want.Names) || !slices.Equal(l.Up, want.Up) {
		t.Errorf("the lattice is now %v", l)
	}
	if !slices.Equal(list, []int{top, bob, ann, bob, low}) {
		t.Errorf("the list is now %v", list)
	}
}

func TestResultsAreFresh(t *testing.T) {
	l, list := diamond(), []int{low, ann}
	for range 2 { // what is done to the first results does not come back in the second ones
		sorted, _ := labels.Sort(l, list)
		least, _ := labels.Least(l, list[1:])
		down, _ := labels.Down(l, ann)
		up, _ := labels.Up(l, ann)
		read, _ := labels.Read(l, "low,ann")
		if !slices.Equal(sorted, list) || !slices.Equal(least, list[1:]) || !slices.Equal(down, list) || !slices.Equal(up, []int{ann, top}) || !slices.Equal(read, list) {
			t.Errorf("%v, %v, %v, %v, %v", sorted, least, down, up, read)
		}
		for _, result := range [][]int{sorted, least, down, up, read} {
			for i := range result {
				result[i] = 99
			}
		}
	}
	if !slices.Equal(list, []int{low, ann}) {
		t.Errorf("the list is now %v", list)
	}
	if text, _ := labels.Show(l, []int{bob}); unsafe.StringData(text) == unsafe.StringData(l.Names[bob]) {
		t.Error("the text shares the name's memory")
	}
}
