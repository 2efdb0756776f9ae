package words_test

import (
	"math"
	"math/big"
	"regexp"
	"strings"
	"testing"
	"unsafe"

	"invigilator/api"
	"invigilator/words"
)

// eachString calls f with all strings of at most n bytes of the alphabet.
func eachString(alphabet string, n int, f func(string)) {
	var add func(s string)
	add = func(s string) {
		f(s)
		if len(s) == n {
			return
		}
		for i := range len(alphabet) {
			add(s + alphabet[i:i+1])
		}
	}
	add("")
}

// everyByte has all bytes, in their order.
func everyByte() string {
	b := make([]byte, 256)
	for i := range b {
		b[i] = byte(i)
	}
	return string(b)
}

// shares reports whether the bytes of part lie in those of whole.
func shares(part, whole string) bool {
	if part == "" || whole == "" {
		return false
	}
	p, w := uintptr(unsafe.Pointer(unsafe.StringData(part))), uintptr(unsafe.Pointer(unsafe.StringData(whole)))
	return w <= p && p < w+uintptr(len(whole))
}

// P1.1: Name.

func TestName(t *testing.T) {
	for s, want := range map[string]bool{
		"a": true, "z": true, "web-1": true, "a-": true, "a--b": true, "a09z": true, "abcdefghijklmnop": true,
		"abcdefghijklmnopq": false, "": false, "1a": false, "-": false, "-a": false, "Web": false, "wEb": false,
		"a_b": false, "a b": false, " a": false, "a ": false, "é": false, "aé": false, "a\n": false, "a\x00": false,
	} {
		if got := words.Name(s); got != want {
			t.Errorf("Name(%q): %v", s, got)
		}
	}
	for n := range 40 {
		for _, fill := range []string{"a", "0", "-"} {
			s := "a" + strings.Repeat(fill, n)
			if got := words.Name(s); got != (len(s) <= 16) {
				t.Errorf("Name of %d bytes: %v", len(s), got)
			}
		}
	}
}

func TestNameOfAllShortStrings(t *testing.T) {
	form := regexp.MustCompile(`^[a-z][a-z0-9-]{0,15}\z`)
	eachString(everyByte(), 2, func(s string) {
		if got := words.Name(s); got != form.MatchString(s) {
			t.Errorf("Name(%q): %v", s, got)
		}
	})
}

// P1.1: Int.

func TestInt(t *testing.T) {
	const least, most = math.MinInt64, math.MaxInt64
	for _, x := range []struct {
		s         string
		low, high int64
		n         int64
		e         api.Errno
	}{
		{"0", 0, 0, 0, api.OK},
		{"0", least, most, 0, api.OK},
		{"12", 0, 12, 12, api.OK},
		{"12", 12, 20, 12, api.OK},
		{"-12", -12, 0, -12, api.OK},
		{"12", 0, 11, 0, api.ErrRange},
		{"12", 13, 20, 0, api.ErrRange},
		{"12", 0, 10, 0, api.ErrRange},
		{"-1", 0, 10, 0, api.ErrRange},
		{"5", 10, 0, 0, api.ErrRange}, // no integer is from 10 to 0
		{"007", 0, 10, 0, api.ErrForm},
		{"-0", 0, 10, 0, api.ErrForm},
		{"00", 0, 10, 0, api.ErrForm},
		{"-01", -10, 10, 0, api.ErrForm},
		{"+1", 0, 10, 0, api.ErrForm},
		{"", 0, 10, 0, api.ErrForm},
		{"-", 0, 10, 0, api.ErrForm},
		{"--5", -9, 9, 0, api.ErrForm},
		{"5-", -9, 9, 0, api.ErrForm},
		{" 5", 0, 10, 0, api.ErrForm},
		{"5 ", 0, 10, 0, api.ErrForm},
		{"1_0", 0, 10, 0, api.ErrForm},
		{"0x1", 0, 10, 0, api.ErrForm},
		{"1e1", 0, 10, 0, api.ErrForm},
		{"١", 0, 10, 0, api.ErrForm},
		{"007", 10, 0, 0, api.ErrForm},
		{"9223372036854775807", 0, most, most, api.OK},
		{"9223372036854775808", 0, most, 0, api.ErrRange},
		{"-9223372036854775808", least, 0, least, api.OK},
		{"-9223372036854775809", least, 0, 0, api.ErrRange},
		{"18446744073709551617", 0, most, 0, api.ErrRange}, // 1 modulo 2^64
		{strings.Repeat("9", 400), least, most, 0, api.ErrRange},
		{"-" + strings.Repeat("9", 400), least, most, 0, api.ErrRange},
		{strings.Repeat("9", 400) + "x", least, most, 0, api.ErrForm},
		{"0" + strings.Repeat("9", 400), least, most, 0, api.ErrForm},
	} {
		if n, e := words.Int(x.s, x.low, x.high); n != x.n || e != x.e {
			t.Errorf("Int(%.30q, %d, %d): %d, %d, want %d, %d", x.s, x.low, x.high, n, e, x.n, x.e)
		}
	}
}

func TestIntOfAllShortStrings(t *testing.T) {
	form := regexp.MustCompile(`^(0|-?[1-9][0-9]*)\z`)
	eachString("0159-+ a.\n", 5, func(s string) {
		want, e := int64(0), api.ErrForm
		if form.MatchString(s) {
			b, _ := new(big.Int).SetString(s, 10)
			want, e = b.Int64(), api.OK
			if want < -500 || want > 1505 {
				want, e = 0, api.ErrRange
			}
		}
		if n, got := words.Int(s, -500, 1505); n != want || got != e {
			t.Errorf("Int(%q): %d, %d, want %d, %d", s, n, got, want, e)
		}
	})
}

func TestDigits(t *testing.T) {
	for n, want := range map[int64]string{
		0: "0", 7: "7", -1: "-1", 10: "10", -10: "-10", 99: "99", 100: "100", 12345: "12345",
		math.MaxInt64: "9223372036854775807", math.MinInt64: "-9223372036854775808",
	} {
		if got := words.Digits(n); got != want {
			t.Errorf("Digits(%d): %s", n, got)
		}
	}
}

// P1.7: Int and Digits.

func TestIntOfDigits(t *testing.T) {
	for shift := range 64 {
		for add := int64(-3); add <= 3; add++ {
			n := int64(uint64(1)<<shift) + add
			if got, e := words.Int(words.Digits(n), math.MinInt64, math.MaxInt64); got != n || e != api.OK {
				t.Errorf("Int of Digits(%d): %d, %d", n, got, e)
			}
		}
	}
	eachString("0179-", 5, func(s string) {
		if n, e := words.Int(s, math.MinInt64, math.MaxInt64); e == api.OK && words.Digits(n) != s {
			t.Errorf("Digits of Int(%q): %s", s, words.Digits(n))
		}
	})
}

// P1.5: Lines.

func TestLines(t *testing.T) {
	for text, want := range map[string][]string{
		"":              nil,
		"\n":            {""},
		"a\n":           {"a"},
		"a\nb\n":        {"a", "b"},
		"a\n\n b\r\n":   {"a", "", " b\r"},
		"\n\n":          {"", ""},
		"\x00\xff\"\n":  {"\x00\xff\""},
		"a\rb\u2028c\n": {"a\rb\u2028c"},
	} {
		got, e := words.Lines(text)
		if e != api.OK || len(got) != len(want) || strings.Join(got, "\n") != strings.Join(want, "\n") {
			t.Errorf("Lines(%q): %q, %d", text, got, e)
		}
	}
}

func TestLinesLimits(t *testing.T) {
	const most = 1 << 20
	for i, x := range []struct {
		text string
		many int
		e    api.Errno
	}{
		{"a", 0, api.ErrForm},
		{"a\nb", 0, api.ErrForm},
		{"a\n\r", 0, api.ErrForm},
		{strings.Repeat("\n", 5000), 5000, api.OK},
		{strings.Repeat("\n", 5001), 0, api.ErrLong},
		{strings.Repeat("\n", 5000) + "x", 0, api.ErrForm},
		{strings.Repeat("\n", 5001) + "x", 0, api.ErrForm},
		{strings.Repeat("x", most-1) + "\n", 1, api.OK},
		{strings.Repeat("x", most), 0, api.ErrForm},
		{strings.Repeat("x", most) + "\n", 0, api.ErrLong},
		{strings.Repeat("x", most+1), 0, api.ErrLong},
	} {
		if l, e := words.Lines(x.text); len(l) != x.many || e != x.e {
			t.Errorf("%d: Lines: %d lines, %d, want %d, %d", i, len(l), e, x.many, x.e)
		}
	}
}

// P1.8 and R3: results are fresh memory.

func TestLinesAreFresh(t *testing.T) {
	text := "alpha\nbeta\n"
	first, _ := words.Lines(text)
	for _, line := range first {
		if shares(line, text) {
			t.Errorf("the line %q shares the text's memory", line)
		}
	}
	first[0] = "changed"
	if again, _ := words.Lines(text); again[0] != "alpha" || again[1] != "beta" {
		t.Errorf("Lines after a change: %q", again)
	}
}
