package words

import (
	"cmp"
	"strings"

	"invigilator/api"
)

const emptyList = "-"

// List returns the list expression of l.
func List(l []int) (string, api.Errno) {
	if e := checkList(l); e != api.OK {
		return "", e
	}
	if len(l) == 0 {
		return emptyList, api.OK
	}
	var parts []string
	for len(l) > 0 {
		n := firstRun(l)
		part := Digits(int64(l[0]))
		if n > 1 {
			part += "-" + Digits(int64(l[n-1]))
		}
		parts = append(parts, part)
		l = l[n:]
	}
	return strings.Join(parts, ","), api.OK
}

// ParseList returns the list whose list expression is s. The numbers of s may be of any size, and a run may be far longer than a list, so nothing is kept beyond the limits.
func ParseList(s string) ([]int, api.Errno) {
	if s == emptyList {
		return nil, api.OK
	}
	var list []int
	var before string
	var many int64
	big := false
	for part := range strings.SplitSeq(s, ",") {
		first, last, ok := readRun(part)
		if !ok || before != "" && compare(first, successor(before)) <= 0 {
			return nil, api.ErrForm
		}
		before = last
		from, _ := Int(first, 0, api.MaxNumber) // if last is not too great, neither is first
		to, e := Int(last, 0, api.MaxNumber)
		if e != api.OK {
			big = true
			continue
		}
		many += to - from + 1
		if many <= api.MaxListed {
			list = appendRun(list, int(from), int(to))
		}
	}
	if big {
		return nil, api.ErrRange
	}
	if many > api.MaxListed {
		return nil, api.ErrLong
	}
	return list, api.OK
}

// checkList returns the first error that applies to a list.
func checkList(l []int) api.Errno {
	if len(l) > api.MaxListed {
		return api.ErrLong
	}
	for _, n := range l {
		if n < 0 || n > api.MaxNumber {
			return api.ErrRange
		}
	}
	for i := 1; i < len(l); i++ {
		if l[i-1] >= l[i] {
			return api.ErrForm
		}
	}
	return api.OK
}

// firstRun returns how many integers the run has that l begins with.
func firstRun(l []int) int {
	n := 1
	for n < len(l) && l[n] == l[n-1]+1 {
		n++
	}
	return n
}

func appendRun(l []int, first, last int) []int {
	for n := first; n <= last; n++ {
		l = append(l, n)
	}
	return l
}

// readRun reads a run: the decimal forms of its first and its last integer.
func readRun(s string) (first, last string, ok bool) {
	first, last, long := strings.Cut(s, "-")
	if !long {
		return s, s, isNatural(s)
	}
	return first, last, isNatural(first) && isNatural(last) && compare(first, last) < 0
}

// compare compares two natural numbers of any size by their decimal forms.
func compare(a, b string) int {
	return cmp.Or(cmp.Compare(len(a), len(b)), strings.Compare(a, b))
}

// successor returns the decimal form of the natural number after s.
func successor(s string) string {
	b := []byte(s)
	for i := len(b) - 1; i >= 0; i-- {
		if b[i] < '9' {
			b[i]++
			return string(b)
		}
		b[i] = '0'
	}
	return "1" + string(b)
}
