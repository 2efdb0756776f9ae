package moves

import (
	"invigilator/api"
	"invigilator/arrays"
)

// operand is an array, the kind that it must have, and the least and the greatest rank that it may have. Where any kind will do, it is the array's own one.
type operand struct {
	array       api.Array
	kind        int
	least, most int
}

// fault returns the first error of a primitive's operands. No kind is looked at before all are arrays, and no rank before all have their kinds.
func fault(list ...operand) api.Errno {
	for _, o := range list {
		if e := arrays.Check(o.array); e != api.OK {
			return e
		}
	}
	for _, o := range list {
		if o.array.Kind != o.kind {
			return api.ErrKind
		}
	}
	for _, o := range list {
		if o.array.Rank < o.least || o.array.Rank > o.most {
			return api.ErrRank
		}
	}
	return api.OK
}
