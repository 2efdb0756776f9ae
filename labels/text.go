package labels

import (
	"slices"
	"strings"

	"invigilator/api"
	"invigilator/lattice"
)

const (
	comma     = ","
	emptyList = "-" // no name, so it is the text of no other list
)

// Show returns the text of a list.
func Show(l api.Lattice, list []int) (string, api.Errno) {
	if _, e := Check(l, list); e != api.OK {
		return "", e
	}
	if len(list) == 0 {
		return emptyList, api.OK
	}
	var names []string
	for _, a := range list {
		names = append(names, l.Names[a])
	}
	return strings.Clone(strings.Join(names, comma)), api.OK // of a single label, the text would be the lattice's own name
}

// Read returns the list whose text is s.
func Read(l api.Lattice, s string) ([]int, api.Errno) {
	if _, e := lattice.Check(l); e != api.OK {
		return nil, e
	}
	if strings.Count(s, comma) >= api.MaxLabelList {
		return nil, api.ErrLong
	}
	if s == emptyList {
		return nil, api.OK
	}
	names := strings.Split(s, comma)
	if slices.Contains(names, "") {
		return nil, api.ErrForm
	}
	var list []int
	for _, name := range names {
		a, e := lattice.Find(l, name)
		if e != api.OK {
			return nil, e
		}
		list = append(list, a)
	}
	return list, api.OK
}
