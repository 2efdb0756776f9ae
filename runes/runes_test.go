package runes_test

import (
	"bytes"
	"math"
	"slices"
	"testing"

	"invigilator/api"
	"invigilator/runes"
)

const last = 1114111

// noRunes has numbers that are no runes; some are runes modulo 2^32 or 2^21.
var noRunes = []int64{-1, -2, -128, -1 << 21, -1<<32 + 65, 55296, 55297, 56320, 57342, 57343, 1114112, 1114113, 1<<21 - 1, 1<<21 + 65, 1 << 31, 1<<32 + 65, 1<<40 + 233, math.MaxInt64, math.MinInt64, math.MinInt64 + 65}

// ends has the runes at both ends of what has the same number of bytes, and others beside them.
var ends = []int64{0, 1, 10, 31, 32, 65, 126, 127, 128, 129, 191, 192, 233, 255, 256, 2046, 2047, 2048, 2049, 4095, 4096, 8364, 55294, 55295, 57344, 57345, 65279, 65533, 65534, 65535, 65536, 65537, 128512, 262143, 262144, 1048575, 1048576, 1114110, 1114111}

// formOf is what the chapter's table says of the bytes of a rune.
func formOf(r int64) []byte {
	x := func(places int64) byte { return byte(r / places % 64) }
	switch {
	case r < 128:
		return []byte{byte(r)}
	case r < 2048:
		return []byte{192 + byte(r/64), 128 + x(1)}
	case r < 65536:
		return []byte{224 + byte(r/4096), 128 + x(64), 128 + x(1)}
	}
	return []byte{240 + byte(r/262144), 128 + x(4096), 128 + x(64), 128 + x(1)}
}

// eachRune calls f with all runes, ascending.
func eachRune(f func(r int64)) {
	for r := int64(0); r <= last; r++ {
		if r < 55296 || r > 57343 {
			f(r)
		}
	}
}

// forms has the bytes of all runes, and all that begin them and are shorter.
type forms struct {
	whole map[string]int64
	begun map[string]bool
}

func allForms() forms {
	f := forms{map[string]int64{}, map[string]bool{}}
	eachRune(func(r int64) {
		b := formOf(r)
		f.whole[string(b)] = r
		for n := 1; n < len(b); n++ {
			f.begun[string(b[:n])] = true
		}
	})
	return f
}

// decode says what Decode returns for bytes that are not empty, and the index 0.
func (f forms) decode(b []byte) (r int64, width int, e api.Errno) {
	for width := 1; width <= min(4, len(b)); width++ {
		if r, ok := f.whole[string(b[:width])]; ok {
			return r, width, api.OK
		}
	}
	if f.begun[string(b)] {
		return 0, 0, runes.ErrMore
	}
	return 0, 0, api.ErrForm
}

// P2.1: Decode.

func TestDecode(t *testing.T) {
	for i, x := range []struct {
		b     []byte
		at    int
		r     int64
		width int
		e     api.Errno
	}{
		{[]byte{65}, 0, 65, 1, api.OK},
		{[]byte{0}, 0, 0, 1, api.OK},
		{[]byte{195, 169, 0}, 0, 233, 2, api.OK},
		{[]byte{195, 169, 0}, 1, 0, 0, api.ErrForm},
		{[]byte{195, 169, 0}, 2, 0, 1, api.OK},
		{[]byte{226, 130, 172}, 0, 8364, 3, api.OK},
		{[]byte{239, 191, 189}, 0, 65533, 3, api.OK},
		{[]byte{240, 159, 152, 128}, 0, 128512, 4, api.OK},
		{[]byte{65, 240, 159, 152, 128, 255}, 1, 128512, 4, api.OK},

		{[]byte{195}, 0, 0, 0, runes.ErrMore},
		{[]byte{97, 195}, 1, 0, 0, runes.ErrMore},
		{[]byte{226}, 0, 0, 0, runes.ErrMore},
		{[]byte{226, 130}, 0, 0, 0, runes.ErrMore},
		{[]byte{226, 130}, 1, 0, 0, api.ErrForm},
		{[]byte{240}, 0, 0, 0, runes.ErrMore},
		{[]byte{240, 159}, 0, 0, 0, runes.ErrMore},
		{[]byte{240, 159, 152}, 0, 0, 0, runes.ErrMore},
		{[]byte{237}, 0, 0, 0, runes.ErrMore},
		{[]byte{237, 159}, 0, 0, 0, runes.ErrMore},
		{[]byte{244, 143, 191}, 0, 0, 0, runes.ErrMore},

		{[]byte{195, 65}, 0, 0, 0, api.ErrForm}, // no rune goes on so
		{[]byte{195, 195}, 0, 0, 0, api.ErrForm},
		{[]byte{226, 65}, 0, 0, 0, api.ErrForm},
		{[]byte{226, 130, 65}, 0, 0, 0, api.ErrForm},
		{[]byte{240, 159, 152, 65}, 0, 0, 0, api.ErrForm},
		{[]byte{169}, 0, 0, 0, api.ErrForm}, // no rune begins so
		{[]byte{128}, 0, 0, 0, api.ErrForm},
		{[]byte{255}, 0, 0, 0, api.ErrForm},
		{[]byte{192}, 0, 0, 0, api.ErrForm},
		{[]byte{193}, 0, 0, 0, api.ErrForm},
		{[]byte{245}, 0, 0, 0, api.ErrForm},
		{[]byte{192, 128}, 0, 0, 0, api.ErrForm}, // more bytes than the rune has
		{[]byte{193, 191}, 0, 0, 0, api.ErrForm},
		{[]byte{224, 128}, 0, 0, 0, api.ErrForm},
		{[]byte{224, 159, 191}, 0, 0, 0, api.ErrForm},
		{[]byte{240, 128}, 0, 0, 0, api.ErrForm},
		{[]byte{240, 143, 191, 191}, 0, 0, 0, api.ErrForm},
		{[]byte{237, 160}, 0, 0, 0, api.ErrForm}, // 55296 to 57343
		{[]byte{237, 160, 128}, 0, 0, 0, api.ErrForm},
		{[]byte{237, 191, 191}, 0, 0, 0, api.ErrForm},
		{[]byte{244, 144}, 0, 0, 0, api.ErrForm}, // beyond 1114111
		{[]byte{244, 144, 128, 128}, 0, 0, 0, api.ErrForm},

		{nil, 0, 0, 0, api.ErrRange},
		{[]byte{}, 0, 0, 0, api.ErrRange},
		{nil, -1, 0, 0, api.ErrRange},
		{[]byte{65}, -1, 0, 0, api.ErrRange},
		{[]byte{65}, 1, 0, 0, api.ErrRange},
		{[]byte{195}, 1, 0, 0, api.ErrRange},
		{[]byte{65}, math.MaxInt, 0, 0, api.ErrRange},
		{[]byte{65}, math.MinInt, 0, 0, api.ErrRange},
	} {
		if r, width, e := runes.Decode(x.b, x.at); r != x.r || width != x.width || e != x.e {
			t.Errorf("%d: Decode(%v, %d): %d, %d, %d, want %d, %d, %d", i, x.b, x.at, r, width, e, x.r, x.width, x.e)
		}
	}
}

// TestDecodeOfManyBytes has any first two bytes, each with some that matter after them. It also shows that what Decode accepts are the bytes of Encode (P2.5).
func TestDecodeOfManyBytes(t *testing.T) {
	f := allForms()
	check := func(b ...byte) {
		r, width, e := runes.Decode(b, 0)
		if s, w, want := f.decode(b); r != s || width != w || e != want {
			t.Fatalf("Decode(%v): %d, %d, %d, want %d, %d, %d", b, r, width, e, s, w, want)
		}
		if e != api.OK {
			return
		}
		if form, e := runes.Encode(r); e != api.OK || !bytes.Equal(form, b[:width]) {
			t.Fatalf("Encode of Decode(%v): %v, %d", b, form, e)
		}
	}
	some := []byte{0, 65, 127, 128, 144, 191, 192, 255}
	for one := range 256 {
		check(byte(one))
		for two := range 256 {
			check(byte(one), byte(two))
			for _, three := range some {
				check(byte(one), byte(two), three)
				for _, four := range some {
					check(byte(one), byte(two), three, four)
				}
			}
		}
	}
}

// P2.1: Encode. All runes are compared with the chapter's table; Decode of Encode is the rune (P2.5).

func TestEncode(t *testing.T) {
	for r, want := range map[int64][]byte{
		65: {65}, 233: {195, 169}, 8364: {226, 130, 172}, 128512: {240, 159, 152, 128},
		0: {0}, 127: {127}, 128: {194, 128}, 2047: {223, 191}, 2048: {224, 160, 128}, 65535: {239, 191, 191}, 65536: {240, 144, 128, 128},
		55295: {237, 159, 191}, 57344: {238, 128, 128}, 1114111: {244, 143, 191, 191},
	} {
		if b, e := runes.Encode(r); !bytes.Equal(b, want) || e != api.OK {
			t.Errorf("Encode(%d): %v, %d", r, b, e)
		}
	}
}

func TestEncodeOfNoRune(t *testing.T) {
	for _, r := range noRunes {
		if b, e := runes.Encode(r); len(b) > 0 || e != api.ErrRange {
			t.Errorf("Encode(%d): %v, %d", r, b, e)
		}
	}
	for r := int64(55296); r <= 57343; r++ {
		if b, e := runes.Encode(r); len(b) > 0 || e != api.ErrRange {
			t.Errorf("Encode(%d): %v, %d", r, b, e)
		}
	}
}

func TestDecodeOfEncode(t *testing.T) {
	eachRune(func(r int64) {
		b, e := runes.Encode(r)
		if e != api.OK || !bytes.Equal(b, formOf(r)) {
			t.Fatalf("Encode(%d): %v, %d", r, b, e)
		}
		if s, width, e := runes.Decode(b, 0); s != r || width != len(b) || e != api.OK {
			t.Fatalf("Decode of Encode(%d): %d, %d, %d", r, s, width, e)
		}
	})
}

// P2.6: bytes are ordered as runes are. It is enough to compare each rune with the next one.

func TestOrder(t *testing.T) {
	var before []byte
	eachRune(func(r int64) {
		b, _ := runes.Encode(r)
		if bytes.Compare(before, b) >= 0 {
			t.Fatalf("the bytes of %d: %v, after %v", r, b, before)
		}
		before = b
	})
}

// P2.4 and P2.7: each rune has the class that the chapter names.

func classOf(r int64) int {
	switch {
	case r == 32:
		return api.RuSpace
	case r == 10:
		return api.RuBreak
	case r == '(' || r == '[':
		return api.RuOpen
	case r == ')' || r == ']':
		return api.RuClose
	case r == 34:
		return api.RuQuote
	case r >= '0' && r <= '9':
		return api.RuDigit
	case r == '-':
		return api.RuSign
	case r >= 'a' && r <= 'z':
		return api.RuLetter
	case r == '<' || r == '=':
		return api.RuMark
	}
	return api.RuOther
}

func TestClass(t *testing.T) {
	for r, want := range map[int64]int{
		'a': api.RuLetter, 'z': api.RuLetter, '[': api.RuOpen, '(': api.RuOpen, ')': api.RuClose, ']': api.RuClose, 233: api.RuOther, 34: api.RuQuote, '=': api.RuMark, '<': api.RuMark,
		'>': api.RuOther, 'A': api.RuOther, '{': api.RuOther, '`': api.RuOther, '/': api.RuOther, ':': api.RuOther, '+': api.RuOther, '_': api.RuOther, '\'': api.RuOther,
		0: api.RuOther, 9: api.RuOther, 10: api.RuBreak, 13: api.RuOther, 32: api.RuSpace, 127: api.RuOther, 160: api.RuOther, 65533: api.RuOther, 256 + 'a': api.RuOther, 65536 + ' ': api.RuOther, last: api.RuOther,
	} {
		if class, e := runes.Class(r); class != want || e != api.OK {
			t.Errorf("Class(%d): %d, %d, want %d", r, class, e, want)
		}
	}
	eachRune(func(r int64) {
		if class, e := runes.Class(r); class != classOf(r) || e != api.OK {
			t.Fatalf("Class(%d): %d, %d", r, class, e)
		}
	})
}

func TestClassOfNoRune(t *testing.T) {
	for _, r := range noRunes {
		if class, e := runes.Class(r); class != 0 || e != api.ErrRange {
			t.Errorf("Class(%d): %d, %d", r, class, e)
		}
	}
}

// P2.7 and R3: arguments stay as they are, and results are new memory.

func TestEncodeIsFresh(t *testing.T) {
	for _, r := range ends {
		first, _ := runes.Encode(r)
		second, _ := runes.Encode(r)
		for i := range first {
			first[i]++
		}
		third, _ := runes.Encode(r)
		if !bytes.Equal(second, formOf(r)) || !bytes.Equal(third, formOf(r)) {
			t.Errorf("Encode(%d) after a change: %v, %v", r, second, third)
		}
	}
}

func TestDecodeLeavesItsArgument(t *testing.T) {
	b := []byte{195, 169, 255, 226, 130}
	kept := slices.Clone(b)
	for at := -1; at <= len(b); at++ {
		runes.Decode(b, at)
	}
	if !bytes.Equal(b, kept) {
		t.Errorf("Decode changed its argument: %v", b)
	}
}
