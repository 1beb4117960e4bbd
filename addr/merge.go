package addr

import (
	"cmp"
	"slices"

	"gatepost/api"
)

// Merge answers the fewest nets that have, together, just the addresses of those of the row that may be; by their Addr, rising.
func Merge(l ...api.Cidr) []api.Cidr {
	var merged []api.Cidr
next:
	for _, c := range inOrder(l) {
		for len(merged) > 0 {
			end := len(merged) - 1
			if Covers(merged[end], c) {
				continue next
			}
			whole, ok := joined(merged[end], c)
			if !ok {
				break
			}
			merged, c = merged[:end], whole
		}
		merged = append(merged, c)
	}
	return merged
}

// inOrder answers the nets of the row that may be, in an order in which a net that covers another one stands ahead of it, and the lower half of a net, and all of its parts, ahead of the upper one.
func inOrder(l []api.Cidr) []api.Cidr {
	var row []api.Cidr
	for _, c := range l {
		if May(c) {
			row = append(row, c)
		}
	}
	slices.SortFunc(row, func(c, d api.Cidr) int {
		return cmp.Or(cmp.Compare(c.Addr, d.Addr), cmp.Compare(c.Bits, d.Bits))
	})
	return row
}

// joined answers the net whose lower half is c, and whose upper one is d, and whether there is one; both may be, and c does not cover d.
func joined(c, d api.Cidr) (api.Cidr, bool) {
	whole := around(c.Addr, c.Bits-1)
	low, high := halves(whole)
	return whole, c == low && d == high
}
