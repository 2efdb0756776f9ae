package words_test

import (
	"fmt"
	"regexp"
	"strings"
	"testing"

	"invigilator/api"
	"invigilator/words"
)

// byteForm is what the chapter says of a byte within quotes.
func byteForm(c byte) string {
	switch {
	case c == '"':
		return `\"`
	case c == '\\':
		return `\\`
	case c == 10:
		return `\n`
	case c == 13:
		return `\r`
	case c == 9:
		return `\t`
	case c < 32 || c > 126:
		return fmt.Sprintf(`\x%02x`, c)
	}
	return string(rune(c))
}

// quotedForm tells the quoted forms: what stands for itself, what has a letter, and what has neither.
var quotedForm = regexp.MustCompile(`^"([ !#-\[\]-~]|\\["\\nrt]|\\x(0[0-8bcef]|1[0-9a-f]|7f|[89a-f][0-9a-f]))*"\z`)

// P1.2: Quote.

func TestQuote(t *testing.T) {
	for s, want := range map[string]string{
		"":            `""`,
		"a b":         `"a b"`,
		"a\n\x00\"":   `"a\n\x00\""`,
		"\\\r\t":      `"\\\r\t"`,
		"\x7f\xff ~":  `"\x7f\xff ~"`,
		"\x1f\x80'`":  `"\x1f\x80'` + "`\"",
		"é":           `"\xc3\xa9"`,
		`\n`:          `"\\n"`,
		`"a"`:         `"\"a\""`,
		"\x0b\x0c\a0": `"\x0b\x0c\x070"`,
	} {
		if got := words.Quote(s); got != want {
			t.Errorf("Quote(%q): %s, want %s", s, got, want)
		}
	}
}

func TestQuoteOfEachByte(t *testing.T) {
	whole := `"`
	for c := range 256 {
		form := byteForm(byte(c))
		whole += form
		s := string([]byte{byte(c)})
		if got := words.Quote(s); got != `"`+form+`"` {
			t.Errorf("Quote(%q): %s", s, got)
		}
		if got, e := words.Unquote(`"` + form + `"`); got != s || e != api.OK {
			t.Errorf("Unquote of %s: %q, %d", form, got, e)
		}
	}
	if got := words.Quote(everyByte()); got != whole+`"` {
		t.Errorf("Quote of all bytes: %s", got)
	}
}

// P1.2: Unquote.

func TestUnquoteFaults(t *testing.T) {
	for _, s := range []string{
		"", `"`, "a", `"a`, `a"`, `a`, `"a" `, ` "a"`, `"a"b`, `"a"b"`, `"a""b"`, `"""`, `"\"`, `"\`, `"\\\"`, `"\x`, `"\x"`, `"\x0"`, `"\x00`,
		`"\x41"`, `"\x7F"`, `"\xFF"`, `"\X00"`, `"\x0a"`, `"\x0d"`, `"\x09"`, `"\x22"`, `"\x5c"`, `"\x20"`, `"\x7e"`, `"\x0g"`, `"\xg0"`,
		`"\q"`, `"\N"`, `"\a"`, `"\0"`, `"\'"`, `"\ "`, "\"\n\"", "\"\t\"", "\"\r\"", "\"\x7f\"", "\"\x1f\"", "\"\x80\"", `"é"`, "'a'",
	} {
		if got, e := words.Unquote(s); got != "" || e != api.ErrForm {
			t.Errorf("Unquote(%q): %q, %d", s, got, e)
		}
	}
}

func TestUnquoteOfAllEscapes(t *testing.T) {
	all := everyByte()
	eachString(all, 2, func(s string) {
		checkUnquote(t, `"\`+s+`"`)
		checkUnquote(t, `"\x`+s+`"`)
	})
	for i := range len(all) {
		checkUnquote(t, `"`+all[i:i+1]+`"`)
		checkUnquote(t, all[i:i+1]+`a"`)
		checkUnquote(t, `"a`+all[i:i+1])
	}
}

func TestUnquoteOfAllShortStrings(t *testing.T) {
	eachString("\"\\xn0f\x7f", 6, func(s string) {
		checkUnquote(t, s)
		checkUnquote(t, `"`+s+`"`)
	})
}

// checkUnquote checks one string against the regular expression, and, if it is a quoted form, that Quote gives it back (P1.7).
func checkUnquote(t *testing.T, s string) {
	t.Helper()
	got, e := words.Unquote(s)
	if !quotedForm.MatchString(s) {
		if got != "" || e != api.ErrForm {
			t.Errorf("Unquote(%q): %q, %d, want ErrForm", s, got, e)
		}
		return
	}
	if e != api.OK || words.Quote(got) != s {
		t.Errorf("Unquote(%q): %q, %d", s, got, e)
	}
}

// P1.7: Unquote of Quote, of any length.

func TestUnquoteOfQuote(t *testing.T) {
	check := func(s string) {
		if got, e := words.Unquote(words.Quote(s)); got != s || e != api.OK {
			t.Errorf("Unquote of Quote(%.30q): %.30q, %d", s, got, e)
		}
	}
	eachString(everyByte(), 2, check)
	eachString("\"\\ nx0\n", 5, check)
	check(strings.Repeat(everyByte(), 20000)) // far more than a line or a text has
}

// R3: a string that needs no escapes is not a part of the argument either.

func TestUnquoteIsFresh(t *testing.T) {
	s := `"plain"`
	if got, _ := words.Unquote(s); shares(got, s) {
		t.Error("Unquote gives a part of its argument")
	}
	if got := words.Quote(s); shares(got, s) {
		t.Error("Quote gives a part of its argument")
	}
}
