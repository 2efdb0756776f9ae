package tables

import (
	"math"
	"strings"

	"invigilator/api"
	"invigilator/words"
)

const (
	// maxBytes is how many bytes the text of a table has at most.
	maxBytes = 200000

	blank = " "
	// heads is how many fields of a line come before its cells: the name and the kind.
	heads = 2
)

// kindWords has the words of kinds, by their numbers.
var kindWords = [...]string{api.KInt: "int", api.KChar: "char"}

// Print returns the text of a table.
func Print(t api.Table) (string, api.Errno) {
	if _, e := Check(t); e != api.OK {
		return "", e
	}
	var b strings.Builder
	for i, a := range t.Columns {
		b.WriteString(t.Names[i])
		b.WriteString(blank)
		b.WriteString(kindWords[a.Kind])
		for _, cell := range a.Cells {
			b.WriteString(blank)
			b.WriteString(words.Digits(cell))
		}
		b.WriteByte('\n')
	}
	return b.String(), api.OK
}

// Parse returns the table of a text. With an error it returns the number of the line that has it, or 0.
func Parse(text string) (t api.Table, line int, e api.Errno) {
	if len(text) > maxBytes || strings.Count(text, "\n") > api.MaxColumns {
		return api.Table{}, 0, api.ErrLong
	}
	lines, e := words.Lines(text)
	if e != api.OK {
		return api.Table{}, 0, e
	}
	for i, s := range lines {
		name, a, e := readColumn(s)
		if e != api.OK {
			return api.Table{}, i + 1, e
		}
		t.Names = append(t.Names, name)
		t.Columns = append(t.Columns, a)
	}
	if column, e := Check(t); e != api.OK {
		return api.Table{}, column + 1, e
	}
	return t, 0, api.OK
}

// readColumn returns the name and the array of a line. Whether its cells are runes, if it has chars, is left to Check.
func readColumn(line string) (name string, a api.Array, e api.Errno) {
	fields := strings.Split(line, blank)
	if len(fields) < heads || len(fields) > heads+api.MaxCells || !words.Name(fields[0]) {
		return "", api.Array{}, api.ErrForm
	}
	kind, e := kindOf(fields[1])
	if e != api.OK {
		return "", api.Array{}, e
	}
	var cells []int64
	for _, s := range fields[heads:] {
		cell, e := words.Int(s, math.MinInt64, math.MaxInt64)
		if e != api.OK {
			return "", api.Array{}, e
		}
		cells = append(cells, cell)
	}
	return fields[0], api.Array{Kind: kind, Rank: 1, Lens: [2]int{len(cells)}, Cells: cells}, api.OK
}

// kindOf returns the kind with this word.
func kindOf(word string) (int, api.Errno) {
	for kind, w := range kindWords {
		// No kind has the number 0, but the table has a word there.
		if kind > 0 && w == word {
			return kind, api.OK
		}
	}
	return 0, api.ErrForm
}
