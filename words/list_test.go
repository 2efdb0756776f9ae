package words_test

import (
	"math"
	"regexp"
	"slices"
	"strconv"
	"strings"
	"testing"

	"invigilator/api"
	"invigilator/words"
)

// upTo returns the integers from first to last.
func upTo(first, last int) []int {
	var l []int
	for n := first; n <= last; n++ {
		l = append(l, n)
	}
	return l
}

// expression writes a list of integers that strictly ascend, with a simple rule of its own: an integer with both neighbours is left out.
func expression(l []int) string {
	if len(l) == 0 {
		return "-"
	}
	s := ""
	for i, n := range l {
		before, after := i > 0 && l[i-1] == n-1, i+1 < len(l) && l[i+1] == n+1
		if before && after {
			continue
		}
		if before {
			s += "-"
		} else if s != "" {
			s += ","
		}
		s += strconv.Itoa(n)
	}
	return s
}

// lists has lists, each with its expression.
var lists = []struct {
	s string
	l []int
}{
	{"-", nil},
	{"0", []int{0}},
	{"7", []int{7}},
	{"1-2", []int{1, 2}},
	{"0-1", []int{0, 1}},
	{"1,3", []int{1, 3}},
	{"1-3,5,8-9", []int{1, 2, 3, 5, 8, 9}},
	{"9-11,99,101", []int{9, 10, 11, 99, 101}},
	{"0,2,1000000000", []int{0, 2, 1000000000}},
	{"999999999-1000000000", []int{999999999, 1000000000}},
}

// P1.6: List.

func TestList(t *testing.T) {
	for _, x := range lists {
		if s, e := words.List(x.l); s != x.s || e != api.OK {
			t.Errorf("List(%v): %s, %d", x.l, s, e)
		}
	}
	if s, e := words.List([]int{}); s != "-" || e != api.OK {
		t.Errorf("List of an empty list: %s, %d", s, e)
	}
	if s, e := words.List(upTo(1, 500)); s != "1-500" || e != api.OK {
		t.Errorf("List of 500 integers: %s, %d", s, e)
	}
}

func TestListErrors(t *testing.T) {
	descending := slices.Clone(upTo(1, 500))
	slices.Reverse(descending)
	for i, x := range []struct {
		l []int
		e api.Errno
	}{
		{[]int{2, 1}, api.ErrForm},
		{[]int{1, 1}, api.ErrForm},
		{[]int{1, 2, 2}, api.ErrForm},
		{[]int{1, 2, 3, 0}, api.ErrForm},
		{[]int{0, 0}, api.ErrForm},
		{[]int{-1}, api.ErrRange},
		{[]int{math.MinInt}, api.ErrRange},
		{[]int{1000000001}, api.ErrRange},
		{[]int{math.MaxInt}, api.ErrRange},
		{[]int{2, 1, -1}, api.ErrRange},
		{[]int{-1, 2, 1}, api.ErrRange},
		{[]int{1000000001, 1}, api.ErrRange},
		{make([]int, 500), api.ErrForm},
		{descending, api.ErrForm},
		{make([]int, 501), api.ErrLong},
		{upTo(0, 500), api.ErrLong},
		{upTo(-1, 499), api.ErrLong},
		{upTo(-1, 498), api.ErrRange},
	} {
		if s, e := words.List(x.l); s != "" || e != x.e {
			t.Errorf("%d: List: %s, %d, want %d", i, s, e, x.e)
		}
	}
}

// P1.6: ParseList.

func TestParseList(t *testing.T) {
	for _, x := range lists {
		if l, e := words.ParseList(x.s); !slices.Equal(l, x.l) || e != api.OK {
			t.Errorf("ParseList(%s): %v, %d", x.s, l, e)
		}
	}
	if l, e := words.ParseList("0-498,1000"); !slices.Equal(l, append(upTo(0, 498), 1000)) || e != api.OK {
		t.Errorf("ParseList of 500 integers: %v, %d", l, e)
	}
}

func TestParseListErrors(t *testing.T) {
	huge := strings.Repeat("9", 300)               // and then a one with 300 zeros
	next := "1" + strings.Repeat("0", 300)         // huge and one
	after := "1" + strings.Repeat("0", 299)        // below huge, with as many digits
	second := "1" + strings.Repeat("0", 299) + "1" // huge and two
	for s, want := range map[string]api.Errno{
		"": api.ErrForm, "--": api.ErrForm, "-,1": api.ErrForm, "1,-": api.ErrForm, ",": api.ErrForm, "1,": api.ErrForm, ",1": api.ErrForm, "1,,3": api.ErrForm,
		"-1": api.ErrForm, "1-": api.ErrForm, "1--2": api.ErrForm, "1-2-3": api.ErrForm, "1-3-5": api.ErrForm, "01": api.ErrForm, "00": api.ErrForm, "1-02": api.ErrForm, "01-2": api.ErrForm,
		"1-3,4": api.ErrForm, "1,2": api.ErrForm, "1,2-3": api.ErrForm, "0,1": api.ErrForm, "9,10": api.ErrForm, "99,100": api.ErrForm, "9-10,11": api.ErrForm,
		"3-3": api.ErrForm, "3-2": api.ErrForm, "10-9": api.ErrForm, "2,1": api.ErrForm, "1,1": api.ErrForm, "3,1": api.ErrForm, "1-5,3": api.ErrForm, "1-5,2-7": api.ErrForm, "10,9": api.ErrForm, "5,0": api.ErrForm,
		"1 2": api.ErrForm, " 1": api.ErrForm, "1 ": api.ErrForm, "1, 3": api.ErrForm, "1\n": api.ErrForm, "+1": api.ErrForm, "a": api.ErrForm, "1;3": api.ErrForm,

		"0-499":                   api.OK,
		"0-500":                   api.ErrLong,
		"0-600":                   api.ErrLong,
		"0-498,500":               api.OK,
		"0-498,500-501":           api.ErrLong,
		"0-499,501":               api.ErrLong,
		"0,2-501":                 api.ErrLong,
		"0-1000000000":            api.ErrLong,
		"0-600,700-800":           api.ErrLong,
		"0-600,700,700":           api.ErrForm,
		"1000000000":              api.OK,
		"1000000001":              api.ErrRange,
		"0-1000000001":            api.ErrRange,
		"1000000000-1000000001":   api.ErrRange,
		"0-600,1000000001":        api.ErrRange,
		"5,1000000001-1000000009": api.ErrRange,
		"99999999999999999999":    api.ErrRange,
		"5," + huge:               api.ErrRange,
		huge + "," + next:         api.ErrForm,
		huge + "-" + next:         api.ErrRange,
		huge + "," + second:       api.ErrRange,
		huge + "-" + after:        api.ErrForm,
		huge + "," + after:        api.ErrForm,
		huge + "-" + huge:         api.ErrForm,
		huge + ",1":               api.ErrForm,
		huge + ",":                api.ErrForm,
		"1000000001,1000000003,x": api.ErrForm,
		"1000000001,0":            api.ErrForm,
		"18446744073709551617":    api.ErrRange,
		"0-18446744073709551617":  api.ErrRange,
		"1999999999999999999,2000000000000000000": api.ErrForm,
	} {
		if l, e := words.ParseList(s); e != want || e != api.OK && len(l) > 0 {
			t.Errorf("ParseList(%.60s): %d, want %d", s, e, want)
		}
	}
}

// wantParse is what ParseList has to return for a string of few digits: it collects the integers and writes their expression again.
func wantParse(s string) ([]int, api.Errno) {
	if s == "-" {
		return nil, api.OK
	}
	part := regexp.MustCompile(`^([0-9]+)(?:-([0-9]+))?$`)
	var l []int
	for _, p := range strings.Split(s, ",") {
		m := part.FindStringSubmatch(p)
		if m == nil {
			return nil, api.ErrForm
		}
		first, _ := strconv.Atoi(m[1])
		last := first
		if m[2] != "" {
			last, _ = strconv.Atoi(m[2])
		}
		l = append(l, upTo(first, last)...)
	}
	sorted := slices.Compact(slices.Sorted(slices.Values(l)))
	if !slices.Equal(l, sorted) || expression(l) != s {
		return nil, api.ErrForm
	}
	if len(l) > 500 {
		return nil, api.ErrLong
	}
	return l, api.OK
}

func TestParseListOfAllShortStrings(t *testing.T) {
	eachString("0129-,", 6, func(s string) {
		if len(s) == 6 && (s[0] == '-' || s[0] == ',') {
			return // shorter strings with these beginnings are enough
		}
		want, e := wantParse(s)
		if l, got := words.ParseList(s); !slices.Equal(l, want) || got != e {
			t.Errorf("ParseList(%q): %v, %d, want %v, %d", s, l, got, want, e)
		}
	})
}

// P1.7: List and ParseList.

func TestParseListOfList(t *testing.T) {
	for bits := range 1 << 12 {
		var l []int
		for n := range 12 {
			if bits>>n&1 == 1 {
				l = append(l, n)
			}
		}
		s, e := words.List(l)
		if s != expression(l) || e != api.OK {
			t.Errorf("List(%v): %s, %d", l, s, e)
		}
		if got, e := words.ParseList(s); !slices.Equal(got, l) || e != api.OK {
			t.Errorf("ParseList(%s): %v, %d", s, got, e)
		}
	}
	eachString("0138-,", 5, func(s string) {
		l, e := words.ParseList(s)
		if e != api.OK {
			return
		}
		if got, e := words.List(l); got != s || e != api.OK {
			t.Errorf("List of ParseList(%s): %s, %d", s, got, e)
		}
	})
}

// P1.8 and R3: arguments stay as they are, and results are fresh memory.

func TestListsAreFresh(t *testing.T) {
	for _, l := range [][]int{{1, 2, 4}, {3, 2, 1}} {
		before := slices.Clone(l)
		words.List(l)
		if !slices.Equal(l, before) {
			t.Errorf("List changed its argument %v: %v", before, l)
		}
	}
	first, _ := words.ParseList("1-3")
	first[0] = 9
	if again, _ := words.ParseList("1-3"); !slices.Equal(again, []int{1, 2, 3}) {
		t.Errorf("ParseList after a change: %v", again)
	}
}
