package runes

import (
	"iter"
	"slices"

	"invigilator/api"
)

// Check returns where the first bytes are that are no rune's, and why; or the number of bytes, if there are none.
func Check(b []byte) (at int, e api.Errno) {
	if len(b) > api.MaxText {
		return 0, api.ErrLong
	}
	for _, end := range runesOf(b) {
		at = end
	}
	if at < len(b) {
		_, _, e = Decode(b, at)
	}
	return at, e
}

// Count returns how many runes a string has.
func Count(b []byte) (int, api.Errno) {
	l, e := Runes(b)
	return len(l), e
}

// Runes returns the runes of a string.
func Runes(b []byte) ([]int64, api.Errno) {
	if _, e := Check(b); e != api.OK {
		return nil, e
	}
	var l []int64
	for r := range runesOf(b) {
		l = append(l, r)
	}
	return l, api.OK
}

// Bytes returns the string of runes; or the index of the first number that is none.
func Bytes(l []int64) (b []byte, at int, e api.Errno) {
	at = slices.IndexFunc(l, func(r int64) bool { return !isRune(r) })
	if at >= 0 {
		return nil, at, api.ErrRange
	}
	for _, r := range l {
		b = appendRune(b, r)
		if len(b) > api.MaxText {
			return nil, 0, api.ErrLong
		}
	}
	return b, 0, api.OK
}

// Starts returns the indices at which runes begin, and the number of bytes.
func Starts(b []byte) ([]int, api.Errno) {
	if _, e := Check(b); e != api.OK {
		return nil, e
	}
	starts := []int{0}
	for _, end := range runesOf(b) {
		starts = append(starts, end)
	}
	return starts, api.OK
}

// On reports whether at is a start.
func On(b []byte, at int) (bool, api.Errno) {
	start, e := Back(b, at)
	return e == api.OK && start == at, e
}

// Back returns the greatest start that is not above at.
func Back(b []byte, at int) (int, api.Errno) {
	if _, e := Check(b); e != api.OK {
		return 0, e
	}
	if at < 0 || at > len(b) {
		return 0, api.ErrRange
	}
	start := 0
	for _, end := range runesOf(b) {
		if end > at {
			break
		}
		start = end
	}
	return start, api.OK
}

// runesOf yields the runes of b, each with the index at which it ends, up to the end of b or to bytes that are no rune's.
func runesOf(b []byte) iter.Seq2[int64, int] {
	return func(yield func(int64, int) bool) {
		for at := 0; at < len(b); {
			r, width, e := Decode(b, at)
			if e != api.OK {
				return
			}
			at += width
			if !yield(r, at) {
				return
			}
		}
	}
}
