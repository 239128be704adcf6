package slots

import (
	"iter"
	"slices"

	"shunter/api"
)

const (
	firstAddress = 1     // 0 is a cell that was never used
	spread       = 40503 // it is odd, so that as many addresses as there are cells, one after the other, have different homes
	noCell       = -1
)

// table is the cells of a set. Only add, addAll and drop change cells; what an argument has is cloned before.
type table []int

// set returns the table as a set.
func (t table) set() api.SlSet { return api.SlSet{Cells: t} }

// clone returns the table in memory of its own.
func (t table) clone() table {
	own := make(table, len(t))
	copy(own, t)
	return own
}

// path yields the cells of the path of an address, and then the cell 0 at its end.
func (t table) path(a int) iter.Seq[int] {
	return func(yield func(cell int) bool) {
		home := a * spread
		// A table that is not good may have no cell 0: no path is longer than one round.
		for i := range t {
			cell := (home + i) % len(t)
			if !yield(cell) || t[cell] == 0 {
				return
			}
		}
	}
}

// find returns the cell of an address that is in the set, or the one into which it has to be put.
func (t table) find(a int) (cell int, is bool) {
	cell = noCell
path:
	for i := range t.path(a) {
		switch t[i] {
		case a:
			cell, is = i, true
			break path
		case api.SlGone, 0:
			// The address may still come behind a cell that was left.
			if cell == noCell {
				cell = i
			}
		}
	}
	return cell, is
}

// add returns the table with an address, and whether it was not there before.
func (t table) add(a int) (table, bool) {
	cell, is := t.find(a)
	if is {
		return t, false
	}
	t[cell] = a
	if t.crowded() {
		return t.anew(), true
	}
	return t, true
}

// addAll returns the table to which addresses were added, one after the other.
func (t table) addAll(l []int) table {
	for _, a := range l {
		t, _ = t.add(a)
	}
	return t
}

// drop makes the cell of an address one that was left, and says whether there was one.
func (t table) drop(a int) bool {
	cell, is := t.find(a)
	if is {
		t[cell] = api.SlGone
	}
	return is
}

// crowded reports whether more than three quarters of the cells are not 0.
func (t table) crowded() bool {
	n := 0
	for _, a := range t {
		if a != 0 {
			n++
		}
	}
	return 4*n > 3*len(t)
}

// anew returns a table with the same addresses, in which no cell was left: one with more cells only if there are many addresses, as otherwise those that were left took the room.
func (t table) anew() table {
	l := t.within(firstAddress, api.MaxAddress+1)
	n := len(t)
	if 8*len(l) > 3*n {
		n *= 2
	}
	return make(table, n).addAll(l)
}

// within returns the addresses from from on, and below to, ascending.
func (t table) within(from, to int) []int {
	var l []int
	for _, a := range t {
		if isAddress(a) && from <= a && a < to {
			l = append(l, a)
		}
	}
	slices.Sort(l)
	return l
}

// isAddress reports whether a number is one of a slot.
func isAddress(a int) bool { return a >= firstAddress && a <= api.MaxAddress }
