package labels

import (
	"math/bits"
	"slices"

	"invigilator/api"
	"invigilator/lattice"
)

// set is a set of labels: its bit a is set if the label a is in it. It has a bit for each of the labels that a lattice may have (api.MaxLabels).
type set uint8

func setOf(list []int) set {
	var s set
	for _, a := range list {
		s = s.with(a)
	}
	return s
}

func (s set) with(a int) set { return s | 1<<a }

func (s set) has(a int) bool { return s>>a&1 == 1 }

func (s set) size() int { return bits.OnesCount8(uint8(s)) }

// labels returns the labels of a set, by their numbers.
func (s set) labels() []int {
	var list []int
	for a := range api.MaxLabels {
		if s.has(a) {
			list = append(list, a)
		}
	}
	return list
}

// upSet returns the labels that are at or above one of a lattice without a fault.
func upSet(l api.Lattice, a int) set { return set(l.Up[a]) }

// downSet returns the labels that are at or below one of a lattice without a fault: in the dual they are above it.
func downSet(l api.Lattice, a int) set {
	dual, _ := lattice.Dual(l)
	return upSet(dual, a)
}

// order is asked which of two labels comes first.
type order interface {
	first(a, b int) bool
}

// levels has the level of each label. It is the order in which labels are sorted.
type levels []int

func levelsOf(l api.Lattice) levels {
	v := make(levels, len(l.Names))
	for a := range v {
		v[a] = downSet(l, a).size()
	}
	return v
}

func (v levels) first(a, b int) bool { return v[a] < v[b] || v[a] == v[b] && a < b }

// sorted returns the labels of a set, sorted by their levels.
func sorted(l api.Lattice, s set) []int {
	list := s.labels()
	arrange(list, levelsOf(l))
	return list
}

// arrange puts the labels of a list into an order.
func arrange(list []int, o order) {
	slices.SortFunc(list, func(a, b int) int {
		switch {
		case o.first(a, b):
			return -1
		case o.first(b, a):
			return 1
		default:
			return 0
		}
	})
}
