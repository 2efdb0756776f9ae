package runes_test

import (
	"bytes"
	"math"
	"slices"
	"testing"

	"invigilator/api"
	"invigilator/runes"
)

// texts has strings of few runes: all of at most two of ends, and some longer ones.
func texts() [][]int64 {
	list := [][]int64{nil, {97, 233, 8364, 128512}, {128512, 8364, 233, 97, 10}, ends}
	for _, r := range ends {
		list = append(list, []int64{r})
		for _, s := range ends {
			list = append(list, []int64{r, s})
		}
	}
	return list
}

// bytesOf puts the bytes of the runes together.
func bytesOf(l []int64) []byte {
	var b []byte
	for _, r := range l {
		b = append(b, formOf(r)...)
	}
	return b
}

// startsOf returns where the runes begin in their bytes, and how many bytes there are.
func startsOf(l []int64) []int {
	starts := []int{0}
	for i := range l {
		starts = append(starts, len(bytesOf(l[:i+1])))
	}
	return starts
}

// faults has bytes that are no strings, each with what Check returns.
var faults = []struct {
	b  []byte
	at int
	e  api.Errno
}{
	{[]byte{97, 195, 169, 255}, 3, api.ErrForm},
	{[]byte{255}, 0, api.ErrForm},
	{[]byte{169}, 0, api.ErrForm},
	{[]byte{195}, 0, runes.ErrMore},
	{[]byte{97, 195}, 1, runes.ErrMore},
	{[]byte{195, 169, 226, 130}, 2, runes.ErrMore},
	{[]byte{97, 240, 159, 152}, 1, runes.ErrMore},
	{[]byte{97, 195, 97}, 1, api.ErrForm},
	{[]byte{97, 195, 195, 169}, 1, api.ErrForm},
	{[]byte{226, 130, 172, 172}, 3, api.ErrForm},
	{[]byte{97, 98, 237, 160, 128, 99}, 2, api.ErrForm},
	{[]byte{97, 192, 128}, 1, api.ErrForm},
	{[]byte{97, 255, 195}, 1, api.ErrForm},
	{[]byte{195, 255}, 0, api.ErrForm},
	{append(bytes.Repeat([]byte{97}, 7999), 195), 7999, runes.ErrMore},
	{append(bytes.Repeat([]byte{97}, 7999), 169), 7999, api.ErrForm},
	{append(bytes.Repeat([]byte{97}, 8000), 195), 0, api.ErrLong},
	{bytes.Repeat([]byte{97}, 8001), 0, api.ErrLong},
	{bytes.Repeat([]byte{255}, 8001), 0, api.ErrLong},
	{bytes.Repeat([]byte{255}, 8000), 0, api.ErrForm},
	{bytes.Repeat([]byte{195, 169}, 4001), 0, api.ErrLong},
}

// longest has strings of 8000 bytes, by their runes.
func longest() [][]int64 {
	return [][]int64{
		slices.Repeat([]int64{97}, 8000),
		slices.Repeat([]int64{233}, 4000),
		append(slices.Repeat([]int64{8364}, 2666), 233),
		slices.Repeat([]int64{128512}, 2000),
	}
}

// P2.2: Check, Count, Runes and Bytes. Bytes of Runes are the string, and Runes of Bytes the runes (P2.5).

func TestOfStrings(t *testing.T) {
	for _, l := range append(texts(), longest()...) {
		b := bytesOf(l)
		if at, e := runes.Check(b); at != len(b) || e != api.OK {
			t.Errorf("Check(%.20v): %d, %d", b, at, e)
		}
		if n, e := runes.Count(b); n != len(l) || e != api.OK {
			t.Errorf("Count(%.20v): %d, %d", b, n, e)
		}
		if got, e := runes.Runes(b); !slices.Equal(got, l) || e != api.OK {
			t.Errorf("Runes(%.20v): %.20v, %d", b, got, e)
		}
		if got, at, e := runes.Bytes(l); !bytes.Equal(got, b) || at != 0 || e != api.OK {
			t.Errorf("Bytes(%.20v): %.20v, %d, %d", l, got, at, e)
		}
		if got, e := runes.Starts(b); !slices.Equal(got, startsOf(l)) || e != api.OK {
			t.Errorf("Starts(%.20v): %.20v, %d", b, got, e)
		}
	}
}

func TestOfTheEmptyString(t *testing.T) {
	for _, b := range [][]byte{nil, {}} {
		at, e := runes.Check(b)
		n, f := runes.Count(b)
		l, g := runes.Runes(b)
		if at != 0 || n != 0 || len(l) != 0 || e != api.OK || f != api.OK || g != api.OK {
			t.Errorf("without bytes: %d, %d, %v, %d, %d, %d", at, n, l, e, f, g)
		}
		starts, e := runes.Starts(b)
		on, f := runes.On(b, 0)
		back, g := runes.Back(b, 0)
		if !slices.Equal(starts, []int{0}) || !on || back != 0 || e != api.OK || f != api.OK || g != api.OK {
			t.Errorf("without bytes: %v, %v, %d, %d, %d, %d", starts, on, back, e, f, g)
		}
	}
	for _, l := range [][]int64{nil, {}} {
		if b, at, e := runes.Bytes(l); len(b) != 0 || at != 0 || e != api.OK {
			t.Errorf("without runes: %v, %d, %d", b, at, e)
		}
	}
}

func TestFaults(t *testing.T) {
	for i, x := range faults {
		if at, e := runes.Check(x.b); at != x.at || e != x.e {
			t.Errorf("%d: Check: %d, %d, want %d, %d", i, at, e, x.at, x.e)
		}
		if n, e := runes.Count(x.b); n != 0 || e != x.e {
			t.Errorf("%d: Count: %d, %d, want %d", i, n, e, x.e)
		}
		if l, e := runes.Runes(x.b); len(l) > 0 || e != x.e {
			t.Errorf("%d: Runes: %.20v, %d, want %d", i, l, e, x.e)
		}
		if l, e := runes.Starts(x.b); len(l) > 0 || e != x.e {
			t.Errorf("%d: Starts: %.20v, %d, want %d", i, l, e, x.e)
		}
		for _, at := range []int{0, 1, len(x.b), -1, len(x.b) + 1} { // an error of Check comes before that of the index
			if on, e := runes.On(x.b, at); on || e != x.e {
				t.Errorf("%d: On: %v, %d, want %d", i, on, e, x.e)
			}
			if back, e := runes.Back(x.b, at); back != 0 || e != x.e {
				t.Errorf("%d: Back: %d, %d, want %d", i, back, e, x.e)
			}
		}
	}
}

// TestCheckOfManyBytes compares Check with Decode, which it goes on with.
func TestCheckOfManyBytes(t *testing.T) {
	some := []byte{97, 128, 159, 160, 195, 226, 237, 240, 255}
	var b [5]byte
	for n := range 9 * 9 * 9 * 9 * 9 {
		for i := range b {
			b[i] = some[n%9]
			n /= 9
		}
		at, want := 0, api.OK
		for want == api.OK && at < len(b) {
			var width int
			_, width, want = runes.Decode(b[:], at)
			at += width
		}
		if got, e := runes.Check(b[:]); got != at || e != want {
			t.Fatalf("Check(%v): %d, %d, want %d, %d", b, got, e, at, want)
		}
	}
}

func TestBytesFaults(t *testing.T) {
	for i, r := range noRunes {
		for _, x := range []struct {
			l  []int64
			at int
		}{{[]int64{r}, 0}, {[]int64{97, 233, r}, 2}, {[]int64{97, r, 98, r, -1}, 1}, {append(slices.Repeat([]int64{97}, 8001), r, r), 8001}} {
			if b, at, e := runes.Bytes(x.l); len(b) > 0 || at != x.at || e != api.ErrRange {
				t.Errorf("%d: Bytes: %.20v, %d, %d, want %d, ErrRange", i, b, at, e, x.at)
			}
		}
	}
	for i, l := range longest() {
		for _, r := range []int64{97, 233, 8364, 128512} {
			if b, at, e := runes.Bytes(append(slices.Clone(l), r)); len(b) > 0 || at != 0 || e != api.ErrLong {
				t.Errorf("%d: Bytes: %d bytes, %d, %d, want ErrLong", i, len(b), at, e)
			}
		}
	}
}

// P2.3: On and Back.

func TestOnAndBack(t *testing.T) {
	for _, l := range texts() {
		b, starts := bytesOf(l), startsOf(l)
		for at := range len(b) + 1 {
			if on, e := runes.On(b, at); on != slices.Contains(starts, at) || e != api.OK {
				t.Errorf("On(%v, %d): %v, %d", b, at, on, e)
			}
			want := at
			for !slices.Contains(starts, want) {
				want--
			}
			if back, e := runes.Back(b, at); back != want || e != api.OK {
				t.Errorf("Back(%v, %d): %d, %d, want %d", b, at, back, e, want)
			}
		}
	}
}

func TestOnAndBackOutside(t *testing.T) {
	for _, b := range [][]byte{nil, {97}, {97, 195, 169}, {240, 159, 152, 128}} {
		for _, at := range []int{-1, -4, len(b) + 1, len(b) + 4, math.MaxInt, math.MinInt} {
			if on, e := runes.On(b, at); on || e != api.ErrRange {
				t.Errorf("On(%v, %d): %v, %d", b, at, on, e)
			}
			if back, e := runes.Back(b, at); back != 0 || e != api.ErrRange {
				t.Errorf("Back(%v, %d): %d, %d", b, at, back, e)
			}
		}
	}
}

// P2.6: a start is at most 3 bytes back, and a string that is cut there, and only there, is two strings.

func TestCuts(t *testing.T) {
	for _, l := range texts() {
		b := bytesOf(l)
		for at := range len(b) + 1 {
			back, _ := runes.Back(b, at)
			on, _ := runes.On(b, at)
			if back > at || at-back > 3 || on != (back == at) {
				t.Errorf("of %v at %d: Back %d, On %v", b, at, back, on)
			}
			one, e := runes.Runes(b[:at])
			two, f := runes.Runes(b[at:])
			if on != (e == api.OK && f == api.OK) {
				t.Errorf("%v, cut at %d: %d, %d", b, at, e, f)
			}
			if on && !slices.Equal(slices.Concat(one, two), l) {
				t.Errorf("%v, cut at %d: %v, %v", b, at, one, two)
			}
		}
	}
}

// P2.7 and R3: arguments stay as they are, and results are new memory.

func TestTextsAreFresh(t *testing.T) {
	l := []int64{97, 233, 8364, 128512}
	b := bytesOf(l)
	for range 2 { // what is done to the first results does not come back in the second ones
		gotRunes, _ := runes.Runes(b)
		gotStarts, _ := runes.Starts(b)
		gotBytes, _, _ := runes.Bytes(l)
		if !slices.Equal(gotRunes, l) || !slices.Equal(gotStarts, []int{0, 1, 3, 6, 10}) || !bytes.Equal(gotBytes, b) {
			t.Errorf("%v, %v, %v", gotRunes, gotStarts, gotBytes)
		}
		clear(gotRunes)
		clear(gotStarts)
		clear(gotBytes)
	}
	runes.Check(b)
	runes.Count(b)
	runes.On(b, 2)
	runes.Back(b, 2)
	if !bytes.Equal(b, []byte{97, 195, 169, 226, 130, 172, 240, 159, 152, 128}) || !slices.Equal(l, []int64{97, 233, 8364, 128512}) {
		t.Errorf("the arguments are now %v, %v", b, l)
	}
}
