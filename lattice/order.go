package lattice

// direction is one of the two ways through an order, which is given by its numbers (api.Lattice).
type direction interface {
	~[]uint8
	leads(a, b int) bool
}

// upward leads from each label to those that it is at or below.
type upward []uint8

// downward leads from each label to those that are at or below it.
type downward []uint8

func (up upward) leads(a, b int) bool { return up[a]>>b&1 == 1 }

func (down downward) leads(a, b int) bool { return down[b]>>a&1 == 1 }

// isStep reports whether b covers a.
func (up upward) isStep(a, b int) bool {
	if a == b || !up.leads(a, b) {
		return false
	}
	for c := range up {
		if c != a && c != b && up.leads(a, c) && up.leads(c, b) {
			return false
		}
	}
	return true
}

// meeting returns the first label at which the ways from a and from b come together: one that both lead to, and that leads to all others of these. Upward it is the join, downward the meet.
func meeting[D direction](d D, a, b int) (label int, ok bool) {
search:
	for c := range d {
		if !d.leads(a, c) || !d.leads(b, c) {
			continue
		}
		for other := range d {
			if d.leads(a, other) && d.leads(b, other) && !d.leads(c, other) {
				continue search
			}
		}
		return c, true
	}
	return 0, false
}

// end returns the label that all labels of a lattice lead to: the top upward, the bottom downward.
func end[D direction](d D) int {
	label := 0
	for a := range d {
		label, _ = meeting(d, label, a)
	}
	return label
}

// disordered returns the first label for which the numbers are not those of an order. A bit of no label is a fault of the label that has it, and of no label below that one.
func disordered(up upward) (label int, bad bool) {
search:
	for a := range up {
		if up[a]>>len(up) != 0 || !up.leads(a, a) {
			label, bad = a, true
			break search
		}
		for b := range up {
			if a == b || !up.leads(a, b) {
				continue
			}
			if up.leads(b, a) {
				label, bad = a, true
				break search
			}
			for c := range up {
				if up.leads(b, c) && !up.leads(a, c) {
					label, bad = a, true
					break search
				}
			}
		}
	}
	return label, bad
}

// unbounded returns the first label of an order that has no join, or no meet, with some label.
func unbounded(up upward) (label int, bad bool) {
search:
	for a := range up {
		for b := range up {
			_, join := meeting(up, a, b)
			_, meet := meeting(downward(up), a, b)
			if !join || !meet {
				label, bad = a, true
				break search
			}
		}
	}
	return label, bad
}
