package slots

import (
	"math/bits"

	"shunter/api"
)

// check says whether the table is good, and if not, which cell has the error.
func (t table) check() (cell int, e api.Errno) {
	if e := checkSize(len(t)); e != api.OK {
		return noCell, e
	}
	if cell, e := t.checkCells(); e != api.OK {
		return cell, e
	}
	if t.crowded() {
		return noCell, api.ErrFull
	}
	return t.checkPaths()
}

// checkSize says whether a table may have n cells.
func checkSize(n int) api.Errno {
	if n > api.MaxCells {
		return api.ErrLong
	}
	if n < api.MinCells || bits.OnesCount(uint(n)) != 1 {
		return api.ErrForm
	}
	return api.OK
}

// checkCells says whether the cells have what they may have, and no address twice; if not, which one is the first that is wrong.
func (t table) checkCells() (cell int, e api.Errno) {
	var met [api.MaxAddress + 1]bool
	for cell, a := range t {
		switch {
		case a < api.SlGone || a > api.MaxAddress:
			return cell, api.ErrRange
		case !isAddress(a):
		case met[a]:
			return cell, api.ErrTwice
		default:
			met[a] = true
		}
	}
	return 0, api.OK
}

// checkPaths says whether each address is on its path; if not, which cell has the first one that is not.
func (t table) checkPaths() (cell int, e api.Errno) {
	for cell, a := range t {
		if !isAddress(a) {
			continue
		}
		if _, is := t.find(a); !is {
			return cell, api.ErrForm
		}
	}
	return 0, api.OK
}
