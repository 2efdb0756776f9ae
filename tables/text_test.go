package tables_test

import (
	"fmt"
	"math"
	"math/big"
	"regexp"
	"slices"
	"strings"
	"testing"

	"invigilator/api"
	"invigilator/tables"
)

const (
	gradesText = "mark int 3 1 3\nname char 99 97 98\n"

	least   = "-9223372036854775808"
	most    = "9223372036854775807"
	tooFew  = "-9223372036854775809"
	tooMany = "9223372036854775808"
)

// P13.5: Print.

// textOf returns the text of a table.
func textOf(t api.Table) string {
	s := ""
	for i, a := range t.Columns {
		s += t.Names[i] + map[int]string{1: " int", 2: " char"}[a.Kind]
		for _, cell := range a.Cells {
			s += fmt.Sprintf(" %d", cell)
		}
		s += "\n"
	}
	return s
}

func TestPrint(t *testing.T) {
	for _, x := range []struct {
		t    api.Table
		want string
	}{
		{grades(), gradesText},
		{api.Table{}, ""},
		{of(column{"a", vector()}), "a int\n"},
		{of(column{"a-1", text()}, column{"b", vector()}), "a-1 char\nb int\n"},
		{of(column{"a", vector(0, -1, math.MinInt64, math.MaxInt64)}), "a int 0 -1 " + least + " " + most + "\n"},
		{of(column{"a", text(0, 10, 1114111, 65)}), "a char 0 10 1114111 65\n"},
	} {
		if s, e := tables.Print(x.t); s != x.want || e != api.OK {
			t.Errorf("Print of %v: %q, %d, want %q", x.t, s, e, x.want)
		}
	}
	for _, u := range goodTables() {
		if s, e := tables.Print(u); s != textOf(u) || e != api.OK {
			t.Errorf("Print of %v: %q, %d", u, s, e)
		}
	}
}

// P13.5: Parse.

var (
	lineForm = regexp.MustCompile(`^([a-z][a-z0-9-]{0,15}) (int|char)((?: [^ ]*)*)\z`)
	cellForm = regexp.MustCompile(`^(0|-?[1-9][0-9]*)\z`)
)

// columnOf returns the column of a line.
func columnOf(line string) (column, api.Errno) {
	parts := lineForm.FindStringSubmatch(line)
	if parts == nil {
		return column{}, api.ErrForm
	}
	cells := strings.Split(parts[3], " ")[1:]
	if len(cells) > 400 {
		return column{}, api.ErrForm
	}
	c := column{parts[1], vector()}
	if parts[2] == "char" {
		c.a = text()
	}
	for _, s := range cells {
		if !cellForm.MatchString(s) {
			return column{}, api.ErrForm
		}
		n, _ := new(big.Int).SetString(s, 10)
		if !n.IsInt64() {
			return column{}, api.ErrRange
		}
		c.a.Lens[0]++
		c.a.Cells = append(c.a.Cells, n.Int64())
	}
	return c, api.OK
}

// parsed returns what the promise says of Parse.
func parsed(s string) (api.Table, int, api.Errno) {
	lines := strings.Split(s, "\n")
	rest := lines[len(lines)-1]
	lines = lines[:len(lines)-1]
	switch {
	case len(s) > 200000 || len(lines) > 16:
		return api.Table{}, 0, api.ErrLong
	case rest != "":
		return api.Table{}, 0, api.ErrForm
	}
	var l []column
	for i, line := range lines {
		c, e := columnOf(line)
		if e != api.OK {
			return api.Table{}, i + 1, e
		}
		l = append(l, c)
	}
	if i, e := faultOf(of(l...)); e != api.OK {
		return api.Table{}, i + 1, e
	}
	return of(l...), 0, api.OK
}

// ask compares Parse with what is expected, and Print of what it returns with the text (P13.8).
func ask(t *testing.T, s string) {
	t.Helper()
	want, at, f := parsed(s)
	u, line, e := tables.Parse(s)
	if line != at || e != f || !same(u, want) {
		t.Errorf("Parse(%.80q): %v, %d, %d, want %v, %d, %d", s, u, line, e, want, at, f)
	}
	if e != api.OK {
		return
	}
	if back, g := tables.Print(u); back != s || g != api.OK {
		t.Errorf("Print of Parse(%.80q): %.80q, %d", s, back, g)
	}
}

func TestParse(t *testing.T) {
	for s, want := range map[string]api.Table{
		"":                                    {},
		gradesText:                            grades(),
		"a int\n":                             of(column{"a", vector()}),
		"a int\nb char\n":                     of(column{"a", vector()}, column{"b", text()}),
		"int int 1\nchar char 65\n":           of(column{"int", vector(1)}, column{"char", text(65)}),
		"a int 0 -1\nb char 0 1114111\n":      of(column{"a", vector(0, -1)}, column{"b", text(0, 1114111)}),
		"a int " + least + " " + most + "\n":  of(column{"a", vector(math.MinInt64, math.MaxInt64)}),
		"abcdefghijklmnop char 55295 57344\n": of(column{"abcdefghijklmnop", text(55295, 57344)}),
		"a int" + strings.Repeat(" 7", 400) + "\n": of(column{"a", vector(slices.Repeat([]int64{7}, 400)...)}),
	} {
		u, line, e := tables.Parse(s)
		is(t, fmt.Sprintf("Parse(%.40q)", s), u, e, want, api.OK)
		if line != 0 {
			t.Errorf("Parse(%.40q): %d", s, line)
		}
	}
}

func TestParseErrors(t *testing.T) {
	seventeen := ""
	for i := range 17 {
		seventeen += fmt.Sprintf("a%d int 1\n", i)
	}
	sixteen := strings.TrimSuffix(seventeen, "a16 int 1\n")
	for _, x := range []struct {
		s    string
		line int
		e    api.Errno
	}{
		{seventeen, 0, api.ErrLong},
		{strings.Repeat("\n", 17), 0, api.ErrLong},
		{seventeen + "x", 0, api.ErrLong},
		{strings.Repeat("x", 200001), 0, api.ErrLong},
		{strings.Repeat("x", 200000) + "\n", 0, api.ErrLong},
		{strings.Repeat(" ", 300000), 0, api.ErrLong},
		{strings.Repeat("\n", 6000), 0, api.ErrLong},
		{strings.Repeat("x", 2000000), 0, api.ErrLong},

		{strings.Repeat("x", 200000), 0, api.ErrForm},
		{sixteen + "a16 int 1", 0, api.ErrForm},
		{"mark int 3", 0, api.ErrForm},
		{"mark int 3\nname", 0, api.ErrForm},
		{"x\nmark int 3\r", 0, api.ErrForm}, // the end comes before the lines
		{"x", 0, api.ErrForm},
		{" ", 0, api.ErrForm},

		{strings.Repeat("x", 199999) + "\n", 1, api.ErrForm},
		{strings.Repeat("\n", 16), 1, api.ErrForm},
		{"\n", 1, api.ErrForm},
		{gradesText + "\n", 3, api.ErrForm},
		{"mark\n", 1, api.ErrForm},
		{"mark \n", 1, api.ErrForm},
		{"mark int \n", 1, api.ErrForm},
		{"mark int 3 \n", 1, api.ErrForm},
		{"mark int  3\n", 1, api.ErrForm},
		{"mark  int 3\n", 1, api.ErrForm},
		{" mark int 3\n", 1, api.ErrForm},
		{"mark  3\n", 1, api.ErrForm}, // the empty word is that of no kind
		{"mark  \n", 1, api.ErrForm},
		{"mark\tint 3\n", 1, api.ErrForm},
		{"mark int\t3\n", 1, api.ErrForm},
		{"mark int 3\r\n", 1, api.ErrForm},
		{"mark int 3,4\n", 1, api.ErrForm},
		{"int 3\n", 1, api.ErrForm},
		{"mark 3\n", 1, api.ErrForm},
		{"mark Int 3\n", 1, api.ErrForm},
		{"mark ints 3\n", 1, api.ErrForm},
		{"mark in 3\n", 1, api.ErrForm},
		{"mark 1 3\n", 1, api.ErrForm},
		{"mark text 3\n", 1, api.ErrForm},
		{"Mark int 3\n", 1, api.ErrForm},
		{"1mark int 3\n", 1, api.ErrForm},
		{" int 3\n", 1, api.ErrForm},
		{"abcdefghijklmnopq int 3\n", 1, api.ErrForm},
		{"mark int 03\n", 1, api.ErrForm},
		{"mark int +3\n", 1, api.ErrForm},
		{"mark int -0\n", 1, api.ErrForm},
		{"mark int -\n", 1, api.ErrForm},
		{"mark int 3.0\n", 1, api.ErrForm},
		{"mark int 0x3\n", 1, api.ErrForm},
		{"mark int x\n", 1, api.ErrForm},
		{"name char a\n", 1, api.ErrForm},
		{"name char \"a\"\n", 1, api.ErrForm},
		{"mark int ٣\n", 1, api.ErrForm},
		{"mark int \xff\n", 1, api.ErrForm},
		{"mark int" + strings.Repeat(" 3", 401) + "\n", 1, api.ErrForm},
		{"mark int" + strings.Repeat(" "+tooMany, 401) + "\n", 1, api.ErrForm}, // too many cells are not an error of a cell
		{"mark int" + strings.Repeat(" ", 199990) + "\n", 1, api.ErrForm},
		{"a int 1\nb int x\nc int " + tooMany + "\n", 2, api.ErrForm},

		{"mark int " + tooMany + "\n", 1, api.ErrRange},
		{"mark int " + tooFew + "\n", 1, api.ErrRange},
		{"name char " + tooMany + "\n", 1, api.ErrRange},
		{"mark int 1" + strings.Repeat("0", 150000) + "\n", 1, api.ErrRange},
		{"mark int 3 " + tooMany + " x\n", 1, api.ErrRange}, // the first cell that is wrong
		{"mark int 3 x " + tooMany + "\n", 1, api.ErrForm},
		{"mark int " + tooMany + " \n", 1, api.ErrRange},
		{"mark ints " + tooMany + "\n", 1, api.ErrForm}, // more than the cell is wrong
		{"Mark int " + tooMany + "\n", 1, api.ErrForm},
		{"mark int " + tooMany + "x\n", 1, api.ErrForm},
		{"a int 1\nb int " + tooMany + "\nc int x\n", 2, api.ErrRange},
		{"A int 1\nb int " + tooMany + "\n", 1, api.ErrForm},

		{"name char 55296\n", 1, api.ErrRange}, // from here on it is what Check returns
		{"name char 65 -1\n", 1, api.ErrRange},
		{"mark int -1\nname char 1114112\n", 2, api.ErrRange},
		{"a int 1\na int 1\n", 2, api.ErrTwice},
		{"a int 1\nb int 1\na int 1 2\n", 3, api.ErrTwice},
		{"a int 1\na char 55296\n", 2, api.ErrTwice},
		{"a int 1\nb int\n", 2, api.ErrLength},
		{"a int\nb int 1\n", 2, api.ErrLength},
		{"a int 1\nb char 65\nc int 1 2\n", 3, api.ErrLength},
		{"a int 1\nb char 65 55296\n", 2, api.ErrRange},
		{sixteen[:len(sixteen)-1] + " 2\n", 16, api.ErrLength},
		{"a int 1\na int 1\nb int x\n", 3, api.ErrForm}, // all lines come before the table
		{"a int 1\nb int 1 2\nc int " + tooMany + "\n", 3, api.ErrRange},
		{"a char 55296\nb int 1\nb\n", 3, api.ErrForm},
	} {
		u, line, e := tables.Parse(x.s)
		if !same(u, api.Table{}) || line != x.line || e != x.e {
			t.Errorf("Parse(%.60q) of %d bytes: %v, %d, %d, want %d, %d", x.s, len(x.s), u, line, e, x.line, x.e)
		}
		ask(t, x.s)
	}
}

// everyByte has all bytes, in their order.
func everyByte() string {
	b := make([]byte, 256)
	for i := range b {
		b[i] = byte(i)
	}
	return string(b)
}

// eachChange does something with all texts that come of a text by taking a byte away, changing one, or putting one in.
func eachChange(s, alphabet string, do func(string)) {
	for i := range len(s) + 1 {
		for k := range len(alphabet) {
			do(s[:i] + alphabet[k:k+1] + s[i:])
			if i < len(s) {
				do(s[:i] + alphabet[k:k+1] + s[i+1:])
			}
		}
		if i < len(s) {
			do(s[:i] + s[i+1:])
		}
	}
}

func TestParseOfChangedTexts(t *testing.T) {
	check := func(s string) { ask(t, s) }
	for _, s := range []string{
		"", gradesText, "a int\n", "a int\nb char\nc-1 int\n", "a int " + least + " " + most + "\n",
		"a char 55295 1114111\nb int -1 0\n", "abcdefghijklmnop int 10\nb char 100\n",
	} {
		eachChange(s, everyByte(), check)
	}
	eachChange("a int 1\nb char 65\n", " \n-01ab", func(s string) { eachChange(s, " \n-01ab", check) })
}

// TestParseOfWords goes through all texts of a few words.
func TestParseOfWords(t *testing.T) {
	var add func(s string, many int)
	add = func(s string, many int) {
		ask(t, s)
		if many == 0 {
			return
		}
		for _, word := range []string{"a", "b", " int", " char", " 65", " 55296", " " + tooMany, " x", " ", "\n"} {
			add(s+word, many-1)
		}
	}
	add("", 5)
	for _, s := range []string{"a int 1\nb char 65\n", "a int\nb", "a int 1 2\n"} {
		add(s, 4)
	}
}

// P13.8: Parse of Print is the table.

func TestParseOfPrint(t *testing.T) {
	list := goodTables()
	list = append(list, of(named(16, vector(slices.Repeat([]int64{math.MinInt64}, 400)...))...)) // few texts are longer
	for _, u := range list {
		s, _ := tables.Print(u)
		got, line, e := tables.Parse(s)
		is(t, "Parse of Print", got, e, u, api.OK)
		if line != 0 {
			t.Errorf("Parse of Print of %v: %d", u, line)
		}
		ask(t, s)
	}
}
