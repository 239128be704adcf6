package referrers

import (
	"cmp"
	"maps"
	"slices"

	"shunter/api"
	"shunter/slots"
)

const (
	limit   = api.MaxAddress // of targets, and so of how many there are; also of slots, and so of how many refer to one target
	noCount = -1
)

// tally is how many slots refer to each target that has been met.
type tally map[int]int

// counts returns the tally as counts.
func (n tally) counts() []api.RfCount {
	var l []api.RfCount
	for _, target := range sortedKeys(n) {
		l = append(l, api.RfCount{Target: target, N: n[target]})
	}
	return l
}

// sortedKeys returns the keys of a map, ascending.
func sortedKeys[K cmp.Ordered, V any](m map[K]V) []K {
	return slices.Sorted(maps.Keys(m))
}

// refs returns the slots of a set that refer to an address, ascending, with these addresses.
func refs(w []uint64, s api.SlSet) ([]api.WkRef, api.Errno) {
	if len(w) > api.MaxWords {
		return nil, api.ErrLong
	}
	all, e := slots.List(s)
	if e != api.OK {
		return nil, e
	}
	var l []api.WkRef
	for _, slot := range all {
		// A word is compared before it becomes an int, which the greatest ones do not fit.
		if slot >= len(w) || w[slot] > api.MaxAddress {
			return nil, api.ErrRange
		}
		if w[slot] != 0 {
			l = append(l, api.WkRef{Slot: slot, To: int(w[slot])})
		}
	}
	return l, api.OK
}

// isInLimit reports whether a number may be a target, or how many slots refer to one.
func isInLimit(n int) bool { return n >= 1 && n <= limit }
