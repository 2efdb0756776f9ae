package lattice_test

import (
	"slices"
	"strings"
	"testing"

	"invigilator/api"
	"invigilator/lattice"
)

// rowsOf returns the rows of a lattice.
func rowsOf(l api.Lattice) []string {
	var rows []string
	for a := range l.Names {
		row := ""
		for b := range l.Names {
			if below(l, a, b) {
				row += "1"
			} else {
				row += "0"
			}
		}
		rows = append(rows, row)
	}
	return rows
}

// textOf returns the text with these names and rows.
func textOf(names, rows []string) string {
	text := ""
	for i := range names {
		text += names[i] + " " + rows[i] + "\n"
	}
	return text
}

// P3.2: Make.

func TestMake(t *testing.T) {
	for _, want := range lattices() {
		if l, row, e := lattice.Make(want.Names, rowsOf(want)); !same(l, want) || row != 0 || e != api.OK {
			t.Errorf("Make of %v: %v, %d, %d", want, l, row, e)
		}
	}
	if l, row, e := lattice.Make([]string{"low", "ann", "bob", "top"}, []string{"1111", "0101", "0011", "0001"}); !same(l, api.Lattice{Names: []string{"low", "ann", "bob", "top"}, Up: []uint8{15, 10, 12, 8}}) || row != 0 || e != api.OK {
		t.Errorf("Make of D: %v, %d, %d", l, row, e)
	}
}

func TestMakeFaults(t *testing.T) {
	eight := slices.Repeat([]string{"11111111"}, 8)
	for i, x := range []struct {
		names, rows []string
		row         int
		e           api.Errno
	}{
		{nil, nil, -1, api.ErrLong},
		{nil, []string{"1"}, -1, api.ErrLong},
		{letters(1), nil, -1, api.ErrLong},
		{letters(1), []string{"1", "1"}, -1, api.ErrLong},
		{letters(2), []string{"1"}, -1, api.ErrLong},
		{letters(2), []string{"11", "01", ""}, -1, api.ErrLong},
		{letters(9), slices.Repeat([]string{"111111111"}, 9), -1, api.ErrLong},
		{letters(9), eight, -1, api.ErrLong},
		{slices.Repeat([]string{""}, 9), slices.Repeat([]string{"x"}, 9), -1, api.ErrLong},
		{[]string{"A"}, []string{"x", "x"}, -1, api.ErrLong},

		{letters(2), []string{"101", "01"}, 0, api.ErrForm},
		{letters(2), []string{"11", "1"}, 1, api.ErrForm},
		{letters(2), []string{"11", ""}, 1, api.ErrForm},
		{letters(2), []string{"11", "011"}, 1, api.ErrForm},
		{letters(2), []string{"1 ", "01"}, 0, api.ErrForm},
		{letters(2), []string{"12", "x1"}, 0, api.ErrForm},
		{letters(2), []string{"1/", "01"}, 0, api.ErrForm},
		{letters(2), []string{"11", "0:"}, 1, api.ErrForm},
		{letters(2), []string{"1é", "01"}, 0, api.ErrForm},
		{letters(2), []string{"11", "é"}, 1, api.ErrForm},
		{letters(1), []string{"1\n"}, 0, api.ErrForm},
		{letters(8), append(slices.Clone(eight[:7]), "1111111"), 7, api.ErrForm},
		{letters(8), append(slices.Clone(eight[:7]), "1111111\x00"), 7, api.ErrForm},
		{[]string{"A", "b"}, []string{"11", "0"}, 1, api.ErrForm}, // rows come before names
		{[]string{"a", "a"}, []string{"11", "2"}, 1, api.ErrForm},

		{[]string{"a", "B"}, []string{"11", "11"}, 1, api.ErrForm}, // from here on it is what Check returns
		{[]string{"", "b"}, []string{"11", "01"}, 0, api.ErrForm},
		{[]string{"a", "a"}, []string{"11", "11"}, 1, api.ErrTwice},
		{letters(2), []string{"11", "11"}, 0, api.ErrForm},
		{letters(2), []string{"11", "00"}, 1, api.ErrForm},
		{letters(1), []string{"0"}, 0, api.ErrForm},
		{letters(8), eight, 0, api.ErrForm},
		{letters(3), []string{"111", "010", "001"}, 1, api.ErrNone},
		{letters(2), []string{"10", "01"}, 0, api.ErrNone},
	} {
		if l, row, e := lattice.Make(x.names, x.rows); !isZero(l) || row != x.row || e != x.e {
			t.Errorf("%d: Make(%q, %q): %v, %d, %d, want %d, %d", i, x.names, x.rows, l, row, e, x.row, x.e)
		}
	}
}

func TestMakeReturnsWhatCheckReturns(t *testing.T) {
	for n := 1; n <= 4; n++ {
		squares(n, func(want api.Lattice) {
			label, f := lattice.Check(want)
			l, row, e := lattice.Make(want.Names, rowsOf(want))
			if row != label || e != f || e == api.OK && !same(l, want) || e != api.OK && !isZero(l) {
				t.Errorf("Make of %v: %v, %d, %d, want %d, %d", want, l, row, e, label, f)
			}
		})
	}
}

// P3.5: Print and Parse; Parse of Print is the lattice, Print of Parse the text (P3.8).

const diamondText = "low 1111\nann 0101\nbob 0011\ntop 0001\n"

func TestPrintAndParse(t *testing.T) {
	if text, e := lattice.Print(diamond()); text != diamondText || e != api.OK {
		t.Errorf("Print of D: %q, %d", text, e)
	}
	if l, line, e := lattice.Parse(diamondText); !same(l, diamond()) || line != 0 || e != api.OK {
		t.Errorf("Parse of D: %v, %d, %d", l, line, e)
	}
	for _, l := range lattices() {
		want := textOf(l.Names, rowsOf(l))
		text, e := lattice.Print(l)
		if text != want || e != api.OK {
			t.Errorf("Print(%v): %q, %d, want %q", l, text, e, want)
		}
		if got, line, e := lattice.Parse(want); !same(got, l) || line != 0 || e != api.OK {
			t.Errorf("Parse(%q): %v, %d, %d", want, got, line, e)
		}
	}
}

func TestLongestText(t *testing.T) {
	l := cube(3)
	for i := range l.Names {
		l.Names[i] = strings.Repeat("x", 15) + l.Names[i]
	}
	text, e := lattice.Print(l)
	if len(text) != 8*26 || e != api.OK {
		t.Errorf("Print: %d bytes, %d", len(text), e)
	}
	if got, line, e := lattice.Parse(text); !same(got, l) || line != 0 || e != api.OK {
		t.Errorf("Parse of it: %v, %d, %d", got, line, e)
	}
}

func TestParseFaults(t *testing.T) {
	for i, x := range []struct {
		text string
		line int
		e    api.Errno
	}{
		{"", 0, api.ErrLong},
		{"a 1", 0, api.ErrLong}, // no line, as each of them ends with a byte 10
		{strings.Repeat("a 1\n", 9), 0, api.ErrLong},
		{strings.Repeat("\n", 9), 0, api.ErrLong},
		{strings.Repeat("\n", 9) + "a", 0, api.ErrLong},
		{strings.Repeat("a", 300) + "\n", 0, api.ErrLong},
		{strings.Repeat("a", 299) + "\n", 1, api.ErrForm},
		{strings.Repeat("a", 301), 0, api.ErrLong},
		{strings.Repeat("a\n", 8) + strings.Repeat("a", 285), 0, api.ErrLong},
		{strings.Repeat("a\n", 8) + strings.Repeat("a", 284), 0, api.ErrForm},

		{"a 1\n ", 0, api.ErrForm},
		{"a 11\nb 01", 0, api.ErrForm},
		{"x\ny", 0, api.ErrForm},
		{"a 1\r\nb", 0, api.ErrForm},
		{diamondText + "e", 0, api.ErrForm},
		{strings.Repeat("\n", 8) + "a", 0, api.ErrForm},

		{"\n", 1, api.ErrForm},
		{"a\n", 1, api.ErrForm},
		{"a1\n", 1, api.ErrForm},
		{"1\n", 1, api.ErrForm},
		{" \n", 1, api.ErrForm},
		{" 1\n", 1, api.ErrForm},
		{"a \n", 1, api.ErrForm},
		{"a  1\n", 1, api.ErrForm},
		{" a 1\n", 1, api.ErrForm},
		{"a 1 \n", 1, api.ErrForm},
		{"a 1\r\n", 1, api.ErrForm},
		{"a\t1\n", 1, api.ErrForm},
		{"a 1 1\n", 1, api.ErrForm},
		{"a b 1\n", 1, api.ErrForm},
		{"A 1\n", 1, api.ErrForm},
		{"abcdefghijklmnopq 1\n", 1, api.ErrForm},
		{"a 11\n", 1, api.ErrForm},
		{"a 2\n", 1, api.ErrForm},
		{"a 1\n\n", 1, api.ErrForm},
		{"a 11\n\n", 2, api.ErrForm},
		{"a 11\nb 1\n", 2, api.ErrForm},
		{"a 11\nb  01\n", 2, api.ErrForm},
		{"\na 01\n", 1, api.ErrForm},
		{"a 111\na 010\nC 001\n", 3, api.ErrForm}, // lines come before the lattice
		{"a 11\nB 1\n", 2, api.ErrForm},
		{"A 11\nb 1\n", 1, api.ErrForm},
		{"a 000\nb 000\nc 00x\n", 3, api.ErrForm},
		{"low 1111\nann 0101\nbob 0011\ntop 000\n", 4, api.ErrForm},

		{"a 11\na 01\n", 2, api.ErrTwice}, // from here on they are those of Check
		{"a 00\na 00\n", 2, api.ErrTwice},
		{"a 0\n", 1, api.ErrForm},
		{"a 11\nb 11\n", 1, api.ErrForm},
		{"a 11\nb 00\n", 2, api.ErrForm},
		{"a 10\nb 01\n", 1, api.ErrNone},
		{"low 111\nann 010\nbob 001\n", 2, api.ErrNone},
		{"a 111\nb 010\nc 000\n", 3, api.ErrForm},
	} {
		if l, line, e := lattice.Parse(x.text); !isZero(l) || line != x.line || e != x.e {
			t.Errorf("%d: Parse(%.40q): %v, %d, %d, want %d, %d", i, x.text, l, line, e, x.line, x.e)
		}
	}
}

func TestParseReturnsWhatCheckReturns(t *testing.T) {
	for n := 1; n <= 4; n++ {
		squares(n, func(want api.Lattice) {
			label, f := lattice.Check(want)
			l, line, e := lattice.Parse(textOf(want.Names, rowsOf(want)))
			if f != api.OK {
				label++ // lines are counted from 1 on
			}
			if line != label || e != f || e == api.OK && !same(l, want) || e != api.OK && !isZero(l) {
				t.Errorf("Parse of %v: %v, %d, %d, want %d, %d", want, l, line, e, label, f)
			}
		})
	}
}

// TestParseOfChangedTexts changes each byte of a text: what Parse accepts is printed again as it was.
func TestParseOfChangedTexts(t *testing.T) {
	for i := range len(diamondText) {
		for c := range 256 {
			text := diamondText[:i] + string([]byte{byte(c)}) + diamondText[i+1:]
			l, _, e := lattice.Parse(text)
			if e != api.OK {
				if !isZero(l) {
					t.Errorf("Parse(%q): %v, %d", text, l, e)
				}
				continue
			}
			if again, e := lattice.Print(l); again != text || e != api.OK {
				t.Errorf("Print of Parse(%q): %q, %d", text, again, e)
			}
		}
	}
}

// P3.8 and R3: arguments stay as they are, and results are new memory.

func TestMadeLatticesAreFresh(t *testing.T) {
	names, rows := []string{"low", "top"}, []string{"11", "01"}
	text := "low 11\ntop 01\n"
	for range 2 { // what is done to the first results does not come back in the second ones
		made, _, _ := lattice.Make(names, rows)
		parsed, _, _ := lattice.Parse(text)
		if want := of("low top", "11 01"); !same(made, want) || !same(parsed, want) {
			t.Errorf("%v, %v", made, parsed)
		}
		if shares(made.Names[0], names[0]) || shares(made.Names[1], names[1]) || shares(parsed.Names[0], text) || shares(parsed.Names[1], text[7:]) {
			t.Error("a name shares the argument's memory")
		}
		clear(made.Names)
		clear(made.Up)
		clear(parsed.Names)
		clear(parsed.Up)
	}
	if !slices.Equal(names, []string{"low", "top"}) || !slices.Equal(rows, []string{"11", "01"}) {
		t.Errorf("the arguments are now %q, %q", names, rows)
	}
}
