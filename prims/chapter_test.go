package prims_test

import (
	"slices"
	"strings"

	"invigilator/api"
	"invigilator/extend"
	"invigilator/finds"
	"invigilator/folds"
	"invigilator/moves"
)

// What the chapter says of primitives, for the tests to compare with.

// chapter has the names in their order, and the constants of the numbers in the order of the chapter.
func chapter() ([]string, []int) {
	names := strings.Fields("neg abs not shape ravel reverse flip iota sum least most count scan grade " +
		"add sub mul div mod plus minus times eq ne lt le gt ge and or min max take drop fill grid cat at in pick")
	return names, []int{
		api.PrNeg, api.PrAbs, api.PrNot, api.PrShape, api.PrRavel, api.PrReverse, api.PrFlip, api.PrIota,
		api.PrSum, api.PrLeast, api.PrMost, api.PrCount, api.PrScan, api.PrGrade,
		api.PrAdd, api.PrSub, api.PrMul, api.PrDiv, api.PrMod, api.PrPlus, api.PrMinus, api.PrTimes,
		api.PrEq, api.PrNe, api.PrLt, api.PrLe, api.PrGt, api.PrGe, api.PrAnd, api.PrOr, api.PrMin, api.PrMax,
		api.PrTake, api.PrDrop, api.PrFill, api.PrGrid, api.PrCat, api.PrAt, api.PrIn, api.PrPick,
	}
}

// nameOf returns the name of a primitive.
func nameOf(p int) string {
	names, _ := chapter()
	return names[p-1]
}

// arityOf returns how many operands a primitive has.
func arityOf(p int) int {
	if p <= api.PrGrade {
		return 1
	}
	return 2
}

// part is a kind and a rank. Operands that fit are the keys of a map; a primitive of one operand has no second one.
type (
	part     struct{ kind, rank int }
	operands struct{ first, second part }
	lines    map[operands]part
)

const (
	i = api.KInt
	c = api.KChar
)

// fitsOf returns all operands that fit a primitive, and the parts of its result.
func fitsOf(p int) lines {
	l := lines{}
	if arityOf(p) == 1 {
		oneFits(nameOf(p), l)
	} else {
		twoFit(nameOf(p), l)
	}
	return l
}

func oneFits(name string, l lines) {
	one := func(a, result part) { l[operands{first: a}] = result }
	for _, k := range []int{i, c} {
		switch name {
		case "shape":
			for n := range 3 {
				one(part{k, n}, part{i, 1})
			}
		case "ravel":
			for n := range 3 {
				one(part{k, n}, part{k, 1})
			}
		case "reverse":
			one(part{k, 1}, part{k, 1})
			one(part{k, 2}, part{k, 2})
		case "flip":
			one(part{k, 2}, part{k, 2})
		case "count":
			one(part{k, 1}, part{i, 0})
			one(part{k, 2}, part{i, 1})
		}
	}
	switch name {
	case "neg", "abs", "not":
		for n := range 3 {
			one(part{i, n}, part{i, n})
		}
	case "iota":
		one(part{i, 0}, part{i, 1})
	case "sum", "least", "most":
		one(part{i, 1}, part{i, 0})
		one(part{i, 2}, part{i, 1})
	case "scan":
		one(part{i, 1}, part{i, 1})
		one(part{i, 2}, part{i, 2})
	case "grade":
		one(part{i, 1}, part{i, 1})
	}
}

func twoFit(name string, l lines) {
	two := func(a, b, result part) { l[operands{a, b}] = result }
	cells := func(k int) {
		for n := range 3 {
			two(part{k, n}, part{k, n}, part{i, n})
			two(part{k, 0}, part{k, n}, part{i, n})
			two(part{k, n}, part{k, 0}, part{i, n})
		}
	}
	for _, k := range []int{i, c} {
		switch name {
		case "eq", "ne":
			cells(k)
		case "take", "drop":
			two(part{i, 0}, part{k, 1}, part{k, 1})
		case "fill":
			two(part{i, 0}, part{k, 0}, part{k, 1})
		case "grid":
			two(part{i, 1}, part{k, 1}, part{k, 2})
		case "cat":
			two(part{k, 1}, part{k, 1}, part{k, 1})
			two(part{k, 2}, part{k, 2}, part{k, 2})
		case "at":
			two(part{k, 1}, part{i, 0}, part{k, 0})
			two(part{k, 1}, part{i, 1}, part{k, 1})
		case "in":
			for n := range 3 {
				two(part{k, n}, part{k, 1}, part{i, n})
			}
		case "pick":
			two(part{i, 1}, part{k, 1}, part{k, 1})
		}
	}
	switch name {
	case "add", "sub", "mul", "div", "mod", "plus", "minus", "times", "lt", "le", "gt", "ge", "and", "or", "min", "max":
		cells(i)
	}
}

// of returns the parts of the result of operands with these kinds and ranks, as many as the primitive has, or why they do not fit.
func (l lines) of(kinds, ranks []int) (part, api.Errno) {
	var o operands
	o.first = part{kinds[0], ranks[0]}
	if len(kinds) == 2 {
		o.second = part{kinds[1], ranks[1]}
	}
	if result, is := l[o]; is {
		return result, api.OK
	}
	for x := range l {
		if x.first.kind == o.first.kind && x.second.kind == o.second.kind {
			return part{}, api.ErrRank
		}
	}
	return part{}, api.ErrKind
}

// errorsOf returns the errors that may come of operands that fit.
func errorsOf(p int) []api.Errno {
	const length, overflow, domain, index, cells = 11, 12, 13, 14, 15
	switch nameOf(p) {
	case "neg", "abs", "sum", "scan":
		return []api.Errno{overflow}
	case "add", "sub", "mul":
		return []api.Errno{length, overflow}
	case "div":
		return []api.Errno{length, overflow, domain}
	case "mod":
		return []api.Errno{length, domain}
	case "plus", "minus", "times", "eq", "ne", "lt", "le", "gt", "ge", "and", "or", "min", "max", "pick":
		return []api.Errno{length}
	case "least", "most":
		return []api.Errno{domain}
	case "iota", "fill":
		return []api.Errno{domain, cells}
	case "grid":
		return []api.Errno{length, domain, cells}
	case "cat":
		return []api.Errno{length, cells}
	case "at":
		return []api.Errno{index}
	default:
		return nil
	}
}

// functionOf does a primitive, of as many operands as it has, by the function of its layer.
func functionOf(p int, l []api.Array) (api.Array, api.Errno) {
	ones := map[string]func(a api.Array) (api.Array, api.Errno){
		"shape": finds.Shape, "ravel": moves.Ravel, "reverse": moves.Reverse, "flip": moves.Flip, "iota": finds.Iota,
		"sum": folds.Sum, "least": folds.Least, "most": folds.Most, "count": folds.Count, "scan": folds.Scan, "grade": finds.Grade,
	}
	twos := map[string]func(a, b api.Array) (api.Array, api.Errno){
		"take": moves.Take, "drop": moves.Drop, "fill": moves.Fill, "grid": moves.Grid, "cat": moves.Cat,
		"at": finds.At, "in": finds.In, "pick": finds.Pick,
	}
	if f, is := ones[nameOf(p)]; is {
		return f(l[0])
	}
	if f, is := twos[nameOf(p)]; is {
		return f(l[0], l[1])
	}
	if arityOf(p) == 1 {
		return extend.One(p, l[0])
	}
	return extend.Two(p, l[0], l[1])
}

// strange are no primitives.
func strange() []int {
	list := []int{0, -1, -15, api.MaxPrim + 1, api.MaxPrim + 2, 100, 255, 256, 257, 1 << 16, 1<<32 + 1, -1<<32 + 15, 1<<63 - 1, -1 << 63}
	slices.Sort(list)
	return list
}
