package words

import (
	"strings"

	"invigilator/api"
)

// escapes has the bytes that a backslash and a letter stand for.
var escapes = [...]struct{ plain, letter byte }{
	{'"', '"'},
	{'\\', '\\'},
	{'\n', 'n'},
	{'\r', 'r'},
	{'\t', 't'},
}

const hexDigits = "0123456789abcdef"

// Quote returns the quoted form of s.
func Quote(s string) string {
	b := make([]byte, 0, len(s)+2)
	b = append(b, '"')
	for i := range len(s) {
		b = appendByte(b, s[i])
	}
	return string(append(b, '"'))
}

// Unquote returns the string whose quoted form is s.
func Unquote(s string) (string, api.Errno) {
	text, width, ok := readQuoted(s)
	if !ok || width != len(s) {
		return "", api.ErrForm
	}
	return text, api.OK
}

// appendByte appends the only form that c has within quotes.
func appendByte(b []byte, c byte) []byte {
	if isPlain(c) {
		return append(b, c)
	}
	if letter, ok := letterOf(c); ok {
		return append(b, '\\', letter)
	}
	return append(b, '\\', 'x', hexDigits[c>>4], hexDigits[c&15])
}

// readQuoted reads the quoted form that s begins with: its string, and how many bytes the form has.
func readQuoted(s string) (text string, width int, ok bool) {
	if !strings.HasPrefix(s, `"`) {
		return "", 0, false
	}
	var b []byte
	for at := 1; at < len(s); {
		if s[at] == '"' {
			return string(b), at + 1, true
		}
		c, n, good := readByte(s[at:])
		if !good {
			return "", 0, false
		}
		b = append(b, c)
		at += n
	}
	return "", 0, false
}

// readByte reads the byte that s, which is not empty, begins with: the byte, and how many bytes its form has.
func readByte(s string) (c byte, width int, ok bool) {
	if s[0] != '\\' {
		return s[0], 1, isPlain(s[0])
	}
	if strings.HasPrefix(s, `\x`) {
		return readHex(s)
	}
	for _, x := range escapes {
		if len(s) > 1 && s[1] == x.letter {
			return x.plain, 2, true
		}
	}
	return 0, 0, false
}

// readHex reads the byte that is written with two digits after \x. A byte that has a shorter form may not be written so.
func readHex(s string) (c byte, width int, ok bool) {
	if len(s) < 4 {
		return 0, 0, false
	}
	high, low := strings.IndexByte(hexDigits, s[2]), strings.IndexByte(hexDigits, s[3])
	if high < 0 || low < 0 {
		return 0, 0, false
	}
	c = byte(high<<4 | low)
	_, short := letterOf(c)
	return c, 4, !short && !isPlain(c)
}

// letterOf returns the letter that stands for c after a backslash, if there is one.
func letterOf(c byte) (letter byte, ok bool) {
	for _, x := range escapes {
		if x.plain == c {
			return x.letter, true
		}
	}
	return 0, false
}

// isPlain reports whether c stands for itself within quotes.
func isPlain(c byte) bool { return ' ' <= c && c <= '~' && c != '"' && c != '\\' }
