package nat

import (
	"slices"

	"fanlight/api"
)

// FullBucket tells whether some bucket of the table is full: no exported call does.
func (n *Nat) FullBucket() bool {
	for _, l := range n.table.All() {
		if len(l) == api.Slots {
			return true
		}
	}
	return false
}

// InTable tells whether a place stands in some bucket.
func (n *Nat) InTable(i int) bool {
	return slices.ContainsFunc(n.table.All(), func(l []int) bool { return slices.Contains(l, i) })
}
