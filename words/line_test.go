package words_test

import (
	"regexp"
	"slices"
	"strings"
	"testing"

	"invigilator/api"
	"invigilator/words"
)

func bare(s string) api.Field   { return api.Field{S: s} }
func quoted(s string) api.Field { return api.Field{S: s, Quoted: true} }

// many returns a list of n times the same field.
func many(n int, f api.Field) []api.Field { return slices.Repeat([]api.Field{f}, n) }

// lines has lines, each with its fields.
var lines = []struct {
	line   string
	fields []api.Field
}{
	{"", nil},
	{"a", []api.Field{bare("a")}},
	{"a b c", []api.Field{bare("a"), bare("b"), bare("c")}},
	{`get / "a b"`, []api.Field{bare("get"), bare("/"), quoted("a b")}},
	{`""`, []api.Field{quoted("")}},
	{`"" ""`, []api.Field{quoted(""), quoted("")}},
	{`a "" b`, []api.Field{bare("a"), quoted(""), bare("b")}},
	{`"a" b`, []api.Field{quoted("a"), bare("b")}},
	{`"a" "b"`, []api.Field{quoted("a"), quoted("b")}},
	{`"\"" "\n"`, []api.Field{quoted(`"`), quoted("\n")}},
	{`" "`, []api.Field{quoted(" ")}},
	{`x='1' ~!`, []api.Field{bare("x='1'"), bare("~!")}},
	{`"\\" a`, []api.Field{quoted(`\`), bare("a")}},
}

// P1.3: Split.

func TestSplit(t *testing.T) {
	for _, x := range lines {
		if l, e := words.Split(x.line); !slices.Equal(l, x.fields) || e != api.OK {
			t.Errorf("Split(%q): %v, %d", x.line, l, e)
		}
	}
}

func TestSplitErrors(t *testing.T) {
	long := strings.Repeat("a", 2001)
	for line, want := range map[string]api.Errno{
		" ": api.ErrForm, "a  b": api.ErrForm, " a": api.ErrForm, "a ": api.ErrForm, `"a" `: api.ErrForm, ` "a"`: api.ErrForm,
		"a\tb": api.ErrForm, "a\nb": api.ErrForm, "a\n": api.ErrForm, `a"b`: api.ErrForm, `a"b"`: api.ErrForm, `"a"b`: api.ErrForm,
		`"a""b"`: api.ErrForm, `a\b`: api.ErrForm, "é": api.ErrForm, "\x7f": api.ErrForm, "a\x00": api.ErrForm, `"a`: api.ErrForm,
		`"a b`: api.ErrForm, `a "b`: api.ErrForm, `"\x41"`: api.ErrForm, `a "\x7F" b`: api.ErrForm, `"`: api.ErrForm,

		strings.Repeat("a", 2000):                api.OK,
		long:                                     api.ErrLong,
		long + " ":                               api.ErrForm,
		long + " é":                              api.ErrForm,
		`"` + strings.Repeat(`\x00`, 2000) + `"`: api.OK,
		`"` + strings.Repeat(`\x00`, 2001) + `"`: api.ErrLong,
		`b "` + long + `"`:                       api.ErrLong,
		strings.Repeat("a ", 63) + "a":           api.OK,
		strings.Repeat("a ", 64) + "a":           api.ErrLong,
		strings.Repeat("a ", 64) + `"a"`:         api.ErrLong,
		strings.Repeat("a ", 64):                 api.ErrForm,
		strings.Repeat("a ", 64) + "é":           api.ErrForm,
		strings.Repeat(strings.Repeat("a", 1637)+" ", 4) + "a": api.OK,
		strings.Repeat("a", 8193):                              api.ErrLong,
		strings.Repeat(" ", 8192):                              api.ErrForm,
		strings.Repeat(" ", 8193):                              api.ErrLong,
	} {
		if l, e := words.Split(line); e != want || e != api.OK && len(l) > 0 {
			t.Errorf("Split(%.30q) of %d bytes: %d, want %d", line, len(line), e, want)
		}
	}
}

func TestSplitOfTheLongestLine(t *testing.T) {
	line := strings.Repeat(strings.Repeat("a", 1999)+" ", 4) + strings.Repeat("b", 192)
	if l, e := words.Split(line); len(line) != 8192 || len(l) != 5 || e != api.OK {
		t.Errorf("Split of %d bytes: %d fields, %d", len(line), len(l), e)
	}
	if l, e := words.Split(line + "b"); len(l) != 0 || e != api.ErrLong {
		t.Errorf("Split of 8193 bytes: %d fields, %d", len(l), e)
	}
}

// TestSplitOfAllShortLines also shows that Join of Split is the line (P1.7).
func TestSplitOfAllShortLines(t *testing.T) {
	const field = `([!#-\[\]-~]+|"([ !#-\[\]-~]|\\["\\nrt])*")`
	form := regexp.MustCompile(`^(` + field + `( ` + field + `)*)?\z`)
	eachString("a \"\\n\x80", 7, func(s string) {
		l, e := words.Split(s)
		if !form.MatchString(s) {
			if len(l) > 0 || e != api.ErrForm {
				t.Errorf("Split(%q): %v, %d, want ErrForm", s, l, e)
			}
			return
		}
		if line, f := words.Join(l); e != api.OK || f != api.OK || line != s {
			t.Errorf("Join of Split(%q): %q, %d, %d", s, line, e, f)
		}
	})
}

// P1.4: Join.

func TestJoin(t *testing.T) {
	for _, x := range lines {
		if line, e := words.Join(x.fields); line != x.line || e != api.OK {
			t.Errorf("Join(%v): %q, %d", x.fields, line, e)
		}
	}
}

func TestJoinErrors(t *testing.T) {
	long := strings.Repeat("a", 2001)
	full := strings.Repeat("a", 2000)
	zeros := strings.Repeat("\x00", 2000)
	for i, x := range []struct {
		l []api.Field
		e api.Errno
	}{
		{nil, api.OK},
		{[]api.Field{}, api.OK},
		{many(64, bare("a")), api.OK},
		{many(65, bare("a")), api.ErrLong},
		{many(64, quoted("")), api.OK},
		{many(65, quoted("")), api.ErrLong},
		{many(65, bare("")), api.ErrLong},
		{[]api.Field{bare("")}, api.ErrForm},
		{[]api.Field{bare("a"), bare("")}, api.ErrForm},
		{[]api.Field{bare("a b")}, api.ErrForm},
		{[]api.Field{bare(" ")}, api.ErrForm},
		{[]api.Field{bare(`a"`)}, api.ErrForm},
		{[]api.Field{bare(`a\`)}, api.ErrForm},
		{[]api.Field{bare("a\n")}, api.ErrForm},
		{[]api.Field{bare("é")}, api.ErrForm},
		{[]api.Field{bare("\x7f")}, api.ErrForm},
		{[]api.Field{bare(full)}, api.OK},
		{[]api.Field{bare(long)}, api.ErrLong},
		{[]api.Field{quoted(long)}, api.ErrLong},
		{[]api.Field{bare(""), bare(long)}, api.ErrLong},
		{[]api.Field{bare(long), bare("")}, api.ErrLong},
		{many(4, bare(full)), api.OK},
		{many(5, bare(full)), api.ErrLong},
		{append(many(5, bare(full)), bare("")), api.ErrForm},
		{[]api.Field{quoted(zeros)}, api.OK},
		{[]api.Field{quoted(zeros), bare(strings.Repeat("a", 189))}, api.OK},
		{[]api.Field{quoted(zeros), bare(strings.Repeat("a", 190))}, api.ErrLong},
		{[]api.Field{quoted(zeros), bare(strings.Repeat("a", 200)), bare("")}, api.ErrForm},
	} {
		if line, e := words.Join(x.l); e != x.e || e != api.OK && line != "" {
			t.Errorf("%d: Join: %d, want %d", i, e, x.e)
		}
	}
}

func TestJoinOfEachByte(t *testing.T) {
	all := everyByte()
	for i := range len(all) {
		c := all[i : i+1]
		want := api.ErrForm
		if i >= 33 && i <= 126 && i != '"' && i != '\\' {
			want = api.OK
		}
		for _, s := range []string{c, "a" + c, c + "a"} {
			if line, e := words.Join([]api.Field{bare(s)}); e != want || e == api.OK && line != s {
				t.Errorf("Join of the bare field %q: %q, %d", s, line, e)
			}
		}
		if line, e := words.Join([]api.Field{quoted(c)}); e != api.OK || line != words.Quote(c) {
			t.Errorf("Join of the quoted field %q: %q, %d", c, line, e)
		}
	}
}

// fieldLists returns the lists of at most two fields of some few, good ones and bad ones.
func fieldLists() [][]api.Field {
	few := []api.Field{bare("a"), bare("'"), bare("-1"), quoted(""), quoted("a"), quoted("a b"), quoted(`"`), quoted(` "`), quoted("\\\n\x00\xff"), bare(""), bare("a b"), bare(`"a"`)}
	lists := [][]api.Field{nil}
	for _, f := range few {
		lists = append(lists, []api.Field{f})
		for _, g := range few {
			lists = append(lists, []api.Field{f, g})
		}
	}
	return lists
}

// P1.7: Split of Join.

func TestSplitOfJoin(t *testing.T) {
	for _, l := range fieldLists() {
		line, e := words.Join(l)
		if e != api.OK {
			continue
		}
		if got, e := words.Split(line); !slices.Equal(got, l) || e != api.OK {
			t.Errorf("Split of Join(%v): %v, %d", l, got, e)
		}
	}
}

// P1.8: two lines with a space between them are the line of both lists of fields.

func TestJoinOfTwoLists(t *testing.T) {
	lists := fieldLists()
	for _, a := range lists[1:] {
		for _, b := range lists[1:] {
			one, e := words.Join(a)
			two, f := words.Join(b)
			both, g := words.Join(append(slices.Clone(a), b...))
			if e != api.OK || f != api.OK {
				if g != api.ErrForm || both != "" {
					t.Errorf("Join of %v and %v: %q, %d", a, b, both, g)
				}
				continue
			}
			if g != api.OK || both != one+" "+two {
				t.Errorf("Join of %v and %v: %q, %d", a, b, both, g)
			}
		}
	}
}

// P1.8 and R3: arguments stay as they are, and results are fresh memory.

func TestFieldsAreFresh(t *testing.T) {
	line := `get / "a b"`
	first, _ := words.Split(line)
	for _, f := range first {
		if shares(f.S, line) {
			t.Errorf("the field %q shares the line's memory", f.S)
		}
	}
	first[0].S, first[1].Quoted = "changed", true
	if again, _ := words.Split(line); !slices.Equal(again, []api.Field{bare("get"), bare("/"), quoted("a b")}) {
		t.Errorf("Split after a change: %v", again)
	}

	l := []api.Field{bare("alone")}
	if got, _ := words.Join(l); shares(got, l[0].S) {
		t.Error("the line shares the field's memory")
	}
	l = []api.Field{bare("b"), quoted("a")}
	words.Join(l)
	if !slices.Equal(l, []api.Field{bare("b"), quoted("a")}) {
		t.Errorf("Join changed its argument: %v", l)
	}
}
