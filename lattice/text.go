package lattice

import (
	"strings"

	"invigilator/api"
	"invigilator/words"
)

// maxBytes is how many bytes the text of a lattice has at most.
const maxBytes = 300

// Make returns the lattice with these names and rows. With an error it returns the index of the row or the label that has it, or -1.
func Make(names, rows []string) (l api.Lattice, row int, e api.Errno) {
	if len(names) < 1 || len(names) > api.MaxLabels || len(rows) != len(names) {
		return api.Lattice{}, -1, api.ErrLong
	}
	up := make([]uint8, len(rows))
	for i, s := range rows {
		number, ok := readRow(s, len(names))
		if !ok {
			return api.Lattice{}, i, api.ErrForm
		}
		up[i] = number
	}
	l = api.Lattice{Names: cloneNames(names), Up: up}
	if label, e := Check(l); e != api.OK {
		return api.Lattice{}, label, e
	}
	return l, 0, api.OK
}

// Print returns the text of a lattice.
func Print(l api.Lattice) (string, api.Errno) {
	if _, e := Check(l); e != api.OK {
		return "", e
	}
	var b strings.Builder
	for label, name := range l.Names {
		b.WriteString(name)
		b.WriteByte(' ')
		b.WriteString(rowOf(l.Up, label))
		b.WriteByte('\n')
	}
	return b.String(), api.OK
}

// Parse returns the lattice of a text. With an error it returns the number of the line that has it, or 0.
func Parse(text string) (l api.Lattice, line int, e api.Errno) {
	many := strings.Count(text, "\n")
	if len(text) > maxBytes || many < 1 || many > api.MaxLabels {
		return api.Lattice{}, 0, api.ErrLong
	}
	lines, e := words.Lines(text)
	if e != api.OK {
		return api.Lattice{}, 0, e
	}
	var names, rows []string
	for i, s := range lines {
		name, row, _ := strings.Cut(s, " ")
		if _, ok := readRow(row, many); !ok || !words.Name(name) {
			return api.Lattice{}, i + 1, api.ErrForm
		}
		names = append(names, name)
		rows = append(rows, row)
	}
	l, label, e := Make(names, rows)
	if e != api.OK {
		return api.Lattice{}, label + 1, e
	}
	return l, 0, api.OK
}

// readRow returns the number of a label whose row is s, among so many labels.
func readRow(s string, many int) (number uint8, ok bool) {
	if len(s) != many {
		return 0, false
	}
	for i := range many {
		switch s[i] {
		case '0':
		case '1':
			number |= 1 << i
		default:
			return 0, false
		}
	}
	return number, true
}

// rowOf returns the row of a label.
func rowOf(up upward, label int) string {
	row := make([]byte, len(up))
	for i := range row {
		row[i] = '0'
		if up.leads(label, i) {
			row[i] = '1'
		}
	}
	return string(row)
}
