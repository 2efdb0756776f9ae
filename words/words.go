// Package words is layer 1: see shared/doc/01-words.md.
//
// It reads and writes names, decimal numbers, quoted strings, lines of fields and lists of numbers.
package words

import (
	"strconv"
	"strings"

	"invigilator/api"
)

// Name reports whether s is a name.
func Name(s string) bool {
	if s == "" || len(s) > api.MaxWord || !isLetter(s[0]) {
		return false
	}
	for i := range len(s) {
		if !isLetter(s[i]) && !isDigit(s[i]) && s[i] != '-' {
			return false
		}
	}
	return true
}

// Int returns the integer from low to high whose decimal form is s.
func Int(s string, low, high int64) (int64, api.Errno) {
	if !isDecimal(s) {
		return 0, api.ErrForm
	}
	// The form is known to be right, so an error means more than 64 bits.
	n, err := strconv.ParseInt(s, 10, 64)
	if err != nil || n < low || n > high {
		return 0, api.ErrRange
	}
	return n, api.OK
}

// Digits returns the decimal form of n.
func Digits(n int64) string { return strconv.FormatInt(n, 10) }

// Lines returns the lines of a text, without their line feeds.
func Lines(text string) ([]string, api.Errno) {
	if len(text) > api.MaxBytes {
		return nil, api.ErrLong
	}
	if text != "" && !strings.HasSuffix(text, "\n") {
		return nil, api.ErrForm
	}
	if strings.Count(text, "\n") > api.MaxLines {
		return nil, api.ErrLong
	}
	var list []string
	for line := range strings.Lines(text) {
		list = append(list, strings.Clone(line[:len(line)-1]))
	}
	return list, api.OK
}

// isDecimal reports whether s is the decimal form of an integer of any size.
func isDecimal(s string) bool {
	digits, negative := strings.CutPrefix(s, "-")
	return isNatural(digits) && !(negative && digits == "0")
}

// isNatural reports whether s is the decimal form of a non-negative integer of any size.
func isNatural(s string) bool {
	for i := range len(s) {
		if !isDigit(s[i]) {
			return false
		}
	}
	return s == "0" || s != "" && s[0] != '0'
}

func isLetter(c byte) bool { return 'a' <= c && c <= 'z' }

func isDigit(c byte) bool { return '0' <= c && c <= '9' }
