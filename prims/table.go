package prims

import (
	"invigilator/api"
	"invigilator/finds"
	"invigilator/folds"
	"invigilator/moves"
)

// primitive is a row of the table: a name, what fits, the errors that may come of it (ascending, and OK behind them), and the function that does it. Primitives of numbers have none, as extend does them by their numbers.
type primitive struct {
	name, fits string
	errors     faults
	one        func(a api.Array) (api.Array, api.Errno)
	two        func(a, b api.Array) (api.Array, api.Errno)
}

// faults has room for those of the primitive that has most of them.
type faults [3]api.Errno

// rowOf returns the row of a primitive.
func rowOf(p int) (primitive, api.Errno) {
	if _, e := Arity(p); e != api.OK {
		return primitive{}, e
	}
	return table()[p], api.OK
}

// table returns the rows of all primitives, by their numbers.
func table() [api.MaxPrim + 1]primitive {
	return [api.MaxPrim + 1]primitive{
		api.PrNeg:     {name: "neg", fits: number, errors: faults{api.ErrOverflow}},
		api.PrAbs:     {name: "abs", fits: number, errors: faults{api.ErrOverflow}},
		api.PrNot:     {name: "not", fits: number},
		api.PrShape:   {name: "shape", fits: "k n: i 1", one: finds.Shape},
		api.PrRavel:   {name: "ravel", fits: "k n: k 1", one: moves.Ravel},
		api.PrReverse: {name: "reverse", fits: rows, one: moves.Reverse},
		api.PrFlip:    {name: "flip", fits: "k 2: k 2", one: moves.Flip},
		api.PrIota:    {name: "iota", fits: "i 0: i 1", errors: faults{api.ErrDomain, api.ErrCells}, one: finds.Iota},
		api.PrSum:     {name: "sum", fits: fold, errors: faults{api.ErrOverflow}, one: folds.Sum},
		api.PrLeast:   {name: "least", fits: fold, errors: faults{api.ErrDomain}, one: folds.Least},
		api.PrMost:    {name: "most", fits: fold, errors: faults{api.ErrDomain}, one: folds.Most},
		api.PrCount:   {name: "count", fits: "k 1: i 0; k 2: i 1", one: folds.Count},
		api.PrScan:    {name: "scan", fits: intRows, errors: faults{api.ErrOverflow}, one: folds.Scan},
		api.PrGrade:   {name: "grade", fits: "i 1: i 1", one: finds.Grade},
		api.PrAdd:     {name: "add", fits: numbers, errors: faults{api.ErrLength, api.ErrOverflow}},
		api.PrSub:     {name: "sub", fits: numbers, errors: faults{api.ErrLength, api.ErrOverflow}},
		api.PrMul:     {name: "mul", fits: numbers, errors: faults{api.ErrLength, api.ErrOverflow}},
		api.PrDiv:     {name: "div", fits: numbers, errors: faults{api.ErrLength, api.ErrOverflow, api.ErrDomain}},
		api.PrMod:     {name: "mod", fits: numbers, errors: faults{api.ErrLength, api.ErrDomain}},
		api.PrPlus:    {name: "plus", fits: numbers, errors: faults{api.ErrLength}},
		api.PrMinus:   {name: "minus", fits: numbers, errors: faults{api.ErrLength}},
		api.PrTimes:   {name: "times", fits: numbers, errors: faults{api.ErrLength}},
		api.PrEq:      {name: "eq", fits: alike, errors: faults{api.ErrLength}},
		api.PrNe:      {name: "ne", fits: alike, errors: faults{api.ErrLength}},
		api.PrLt:      {name: "lt", fits: numbers, errors: faults{api.ErrLength}},
		api.PrLe:      {name: "le", fits: numbers, errors: faults{api.ErrLength}},
		api.PrGt:      {name: "gt", fits: numbers, errors: faults{api.ErrLength}},
		api.PrGe:      {name: "ge", fits: numbers, errors: faults{api.ErrLength}},
		api.PrAnd:     {name: "and", fits: numbers, errors: faults{api.ErrLength}},
		api.PrOr:      {name: "or", fits: numbers, errors: faults{api.ErrLength}},
		api.PrMin:     {name: "min", fits: numbers, errors: faults{api.ErrLength}},
		api.PrMax:     {name: "max", fits: numbers, errors: faults{api.ErrLength}},
		api.PrTake:    {name: "take", fits: part, two: moves.Take},
		api.PrDrop:    {name: "drop", fits: part, two: moves.Drop},
		api.PrFill:    {name: "fill", fits: "i 0, k 0: k 1", errors: faults{api.ErrDomain, api.ErrCells}, two: moves.Fill},
		api.PrGrid:    {name: "grid", fits: "i 1, k 1: k 2", errors: faults{api.ErrLength, api.ErrDomain, api.ErrCells}, two: moves.Grid},
		api.PrCat:     {name: "cat", fits: "k 1, k 1: k 1; k 2, k 2: k 2", errors: faults{api.ErrLength, api.ErrCells}, two: moves.Cat},
		api.PrAt:      {name: "at", fits: "k 1, i 0: k 0; k 1, i 1: k 1", errors: faults{api.ErrIndex}, two: finds.At},
		api.PrIn:      {name: "in", fits: "k n, k 1: i n", two: finds.In},
		api.PrPick:    {name: "pick", fits: "i 1, k 1: k 1", errors: faults{api.ErrLength}, two: finds.Pick},
	}
}
