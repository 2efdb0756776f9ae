package words

import (
	"iter"
	"strings"

	"invigilator/api"
)

// Split returns the fields of a line.
func Split(line string) ([]api.Field, api.Errno) {
	if len(line) > api.MaxLine {
		return nil, api.ErrLong
	}
	var list []api.Field
	for f, ok := range fieldsOf(line) {
		if !ok {
			return nil, api.ErrForm
		}
		list = append(list, f)
	}
	if tooLong(list) {
		return nil, api.ErrLong
	}
	return list, api.OK
}

// Join returns the line of the fields.
func Join(l []api.Field) (string, api.Errno) {
	if tooLong(l) {
		return "", api.ErrLong
	}
	parts := make([]string, 0, len(l))
	for _, f := range l {
		switch {
		case f.Quoted:
			parts = append(parts, Quote(f.S))
		case f.S != "" && bareWidth(f.S) == len(f.S):
			parts = append(parts, f.S)
		default:
			return "", api.ErrForm
		}
	}
	line := strings.Join(parts, " ")
	if len(line) > api.MaxLine {
		return "", api.ErrLong
	}
	return strings.Clone(line), api.OK // of a single field, the line would be the argument's own string
}

// fieldsOf yields the fields of a line, each with true. Where the line goes on in another form, it yields false and ends.
func fieldsOf(line string) iter.Seq2[api.Field, bool] {
	return func(yield func(api.Field, bool) bool) {
		if line != "" {
			parseFields(line, yield)
		}
	}
}

// parseFields is the parser behind fieldsOf, for a line that is not empty.
func parseFields(line string, yield func(api.Field, bool) bool) {
	var at, width int
	var text string
	var ok bool

bare:
	if strings.HasPrefix(line[at:], `"`) {
		goto quoted
	}
	width = bareWidth(line[at:])
	if width == 0 {
		goto fault
	}
	text = strings.Clone(line[at : at+width])
	if !yield(api.Field{S: text}, true) {
		return
	}
	goto space

quoted:
	text, width, ok = readQuoted(line[at:])
	if !ok {
		goto fault
	}
	if !yield(api.Field{S: text, Quoted: true}, true) {
		return
	}

space:
	at += width
	if at == len(line) {
		return
	}
	if line[at] == ' ' {
		at++
		goto bare
	}

fault:
	yield(api.Field{}, false)
}

// tooLong reports whether there are too many fields, or one is too long.
func tooLong(l []api.Field) bool {
	for _, f := range l {
		if len(f.S) > api.MaxField {
			return true
		}
	}
	return len(l) > api.MaxFields
}

// bareWidth returns how many bytes at the beginning of s may be those of a bare field.
func bareWidth(s string) int {
	for i := range len(s) {
		if s[i] == ' ' || !isPlain(s[i]) {
			return i
		}
	}
	return len(s)
}
