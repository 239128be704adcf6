package slots_test

import (
	"math"
	"math/rand"
	"slices"

	"shunter/api"
	"shunter/slots"
)

// Limits of tables and addresses, as the chapter has them.
const (
	gone       = -1
	minCells   = 8
	maxCells   = 8192
	maxAddress = 1600
	maxNumbers = 4000
)

// call has the arguments of all functions: the cells of two tables, an address, bounds, and a list of numbers.
type call struct {
	s, t        []int
	a, from, to int
	l           []int
}

// set returns the set with these cells.
func set(cells ...int) api.SlSet { return api.SlSet{Cells: cells} }

// results calls all functions, and collects what each returns, the error last. Sets become their cells; a list that is nil becomes an empty one.
func results(c call) [][]any {
	s, t := set(c.s...), set(c.t...)
	empty := slots.New()
	cell, e1 := slots.Check(s)
	has, e2 := slots.Has(s, c.a)
	more, added, e3 := slots.Add(s, c.a)
	less, dropped, e4 := slots.Drop(s, c.a)
	n, e5 := slots.Len(s)
	all, e6 := slots.List(s)
	some, e7 := slots.Range(s, c.from, c.to)
	of, e8 := slots.Of(c.l)
	both, e9 := slots.Join(s, t)
	rest, purged, e10 := slots.Purge(s, c.from, c.to)
	return [][]any{
		{list(empty.Cells), api.OK}, {cell, e1}, {has, e2}, {list(more.Cells), added, e3}, {list(less.Cells), dropped, e4}, {n, e5},
		{list(all), e6}, {list(some), e7}, {list(of.Cells), e8}, {list(both.Cells), e9}, {list(rest.Cells), purged, e10},
	}
}

// names are those of the functions, in the order of results.
func names() []string {
	return []string{"New", "Check", "Has", "Add", "Drop", "Len", "List", "Range", "Of", "Join", "Purge"}
}

func list[T any](l []T) []T {
	if len(l) == 0 {
		return []T{}
	}
	return l
}

// errorsOf returns the results of all functions that have these errors: cell and ofTable are those of the table s, then come those of the functions with an address, of Of, and of Join.
func errorsOf(cell int, ofTable, ofAddress, ofList, ofBoth api.Errno) [][]any {
	none := []int{}
	return [][]any{
		{make([]int, 8), api.OK}, {cell, ofTable}, {false, ofAddress}, {none, false, ofAddress}, {none, false, ofAddress}, {0, ofTable},
		{none, ofTable}, {none, ofTable}, {none, ofList}, {none, ofBoth}, {none, 0, ofTable},
	}
}

// pathOf returns the path of an address, with the cell 0 at its end.
func pathOf(cells []int, a int) []int {
	var path []int
	for i := a * 40503 % len(cells); len(path) < len(cells); i++ {
		cell := i % len(cells)
		path = append(path, cell)
		if cells[cell] == 0 {
			break
		}
	}
	return path
}

// onPath reports whether an address is in a cell of its path.
func onPath(cells []int, a int) bool {
	return slices.ContainsFunc(pathOf(cells, a), func(i int) bool { return cells[i] == a })
}

// notZero returns how many cells are not 0.
func notZero(cells []int) int { return len(cells) - countOf(cells, 0) }

// countOf returns how many cells have this.
func countOf(cells []int, v int) int {
	n := 0
	for _, c := range cells {
		if c == v {
			n++
		}
	}
	return n
}

// addressesOf returns the addresses of a table, ascending.
func addressesOf(cells []int) []int {
	l := slices.DeleteFunc(slices.Clone(cells), func(c int) bool { return c <= 0 })
	slices.Sort(l)
	return l
}

// between returns the numbers of a list from from on, and below to.
func between(l []int, from, to int) []int {
	return slices.DeleteFunc(slices.Clone(l), func(a int) bool { return a < from || a >= to })
}

// plus returns a table to which addresses were added, one after the other.
func plus(cells []int, l ...int) []int {
	cells = slices.Clone(cells)
	for _, a := range l {
		if onPath(cells, a) {
			continue
		}
		path := pathOf(cells, a)
		cell := path[len(path)-1]
		if i := slices.IndexFunc(path, func(i int) bool { return cells[i] == gone }); i >= 0 {
			cell = path[i]
		}
		cells[cell] = a
		all := addressesOf(cells)
		switch {
		case notZero(cells)*4 <= len(cells)*3:
		case len(all)*8 > len(cells)*3:
			cells = plus(make([]int, 2*len(cells)), all...)
		default:
			cells = plus(make([]int, len(cells)), all...)
		}
	}
	return cells
}

// minus returns a table from which addresses were dropped.
func minus(cells []int, l ...int) []int {
	cells = slices.Clone(cells)
	for i, c := range cells {
		if c > 0 && slices.Contains(l, c) {
			cells[i] = gone
		}
	}
	return cells
}

// checkOf is what Check returns.
func checkOf(cells []int) (int, api.Errno) {
	n := len(cells)
	if n > maxCells {
		return -1, api.ErrLong
	}
	if !slices.Contains([]int{8, 16, 32, 64, 128, 256, 512, 1024, 2048, 4096, 8192}, n) {
		return -1, api.ErrForm
	}
	for i, c := range cells {
		if c < gone || c > maxAddress {
			return i, api.ErrRange
		}
		if c > 0 && slices.Contains(cells[:i], c) {
			return i, api.ErrTwice
		}
	}
	if 4*notZero(cells) > 3*n {
		return -1, api.ErrFull
	}
	for i, c := range cells {
		if c > 0 && !onPath(cells, c) {
			return i, api.ErrForm
		}
	}
	return 0, api.OK
}

// expected is what all functions return, read from the chapter.
func expected(c call) [][]any {
	cell, e := checkOf(c.s)
	ofAddress, ofBoth, ofList := e, e, api.OK
	if e == api.OK {
		_, ofBoth = checkOf(c.t)
		if c.a < 1 || c.a > maxAddress {
			ofAddress = api.ErrRange
		}
	}
	if len(c.l) > maxNumbers {
		ofList = api.ErrLong
	} else if slices.ContainsFunc(c.l, func(a int) bool { return a < 1 || a > maxAddress }) {
		ofList = api.ErrRange
	}
	want := errorsOf(cell, e, ofAddress, ofList, ofBoth)
	if e == api.OK {
		all := addressesOf(c.s)
		some := between(all, c.from, c.to)
		want[5], want[6], want[7] = []any{len(all), e}, []any{list(all), e}, []any{list(some), e}
		want[10] = []any{minus(c.s, some...), len(some), e}
	}
	if ofAddress == api.OK {
		has := slices.Contains(c.s, c.a)
		want[2], want[3], want[4] = []any{has, e}, []any{plus(c.s, c.a), !has, e}, []any{minus(c.s, c.a), has, e}
	}
	if ofList == api.OK {
		want[8] = []any{plus(make([]int, minCells), c.l...), ofList}
	}
	if ofBoth == api.OK {
		want[9] = []any{plus(c.s, addressesOf(c.t)...), ofBoth}
	}
	return want
}

// sizes are how many cells a table may have.
func sizes() []int { return []int{8, 16, 32, 64, 128, 256, 512, 1024, 2048, 4096, 8192} }

// edgeNumbers are numbers that are near addresses and cells, and far from them.
func edgeNumbers() []int {
	return []int{math.MinInt, math.MinInt + 1, math.MinInt32, -8192, -1601, -1600, -8, -3, -2, -1, 0, 1, 2, 7, 8, 9, 15, 16, 17,
		1599, 1600, 1601, 1602, 3200, 8192, math.MaxInt32, 1 << 32, 1<<32 + 1, 1 << 62, math.MaxInt - 1, math.MaxInt}
}

// noAddresses are the edge numbers that are no addresses.
func noAddresses() []int {
	return slices.DeleteFunc(edgeNumbers(), func(a int) bool { return a >= 1 && a <= maxAddress })
}

// badCells are numbers that a cell may not have.
func badCells() []int {
	return slices.DeleteFunc(noAddresses(), func(a int) bool { return a == 0 || a == gone })
}

// upTo returns the numbers from 1 to n.
func upTo(n int) []int {
	l := make([]int, n)
	for i := range l {
		l[i] = i + 1
	}
	return l
}

// crowd returns a good table in which n cells are not 0, by making cells SlGone that are not on the path of an address.
func crowd(cells []int, n, a int) []int {
	path := pathOf(cells, a)
	cells = slices.Clone(cells)
	for i := range cells {
		if notZero(cells) == n {
			break
		}
		if cells[i] == 0 && !slices.Contains(path, i) {
			cells[i] = gone
		}
	}
	return cells
}

// dice returns numbers that are the same in each run.
func dice() *rand.Rand { return rand.New(rand.NewSource(1)) }

// one returns any one of them.
func one[T any](r *rand.Rand, l []T) T { return l[r.Intn(len(l))] }

// anyAddress returns an address; many have the same home.
func anyAddress(r *rand.Rand) int {
	switch r.Intn(3) {
	case 0:
		return 1 + 16*r.Intn(20)
	case 1:
		return 1 + r.Intn(20)
	}
	return 1 + r.Intn(maxAddress)
}

// anyAddresses returns up to n addresses.
func anyAddresses(r *rand.Rand, n int) []int {
	l := make([]int, r.Intn(n+1))
	for i := range l {
		l[i] = anyAddress(r)
	}
	return l
}

// anyGood returns the cells of a good table, some of which may be SlGone.
func anyGood(r *rand.Rand) []int {
	cells := make([]int, one(r, []int{8, 8, 16, 16, 32, 64}))
	for range r.Intn(len(cells) / 2) {
		cells[r.Intn(len(cells))] = gone
	}
	for range r.Intn(len(cells)) {
		if a := anyAddress(r); 4*notZero(cells) <= 3*len(cells)-4 {
			cells = plus(cells, a)
		}
	}
	for range r.Intn(3) {
		cells = minus(cells, one(r, cells))
	}
	return cells
}

// anyCall returns arguments that are good.
func anyCall(r *rand.Rand) call {
	c := call{s: anyGood(r), t: anyGood(r), a: anyAddress(r), from: r.Intn(40), to: r.Intn(maxAddress), l: anyAddresses(r, 30)}
	if all := addressesOf(c.s); len(all) > 0 && r.Intn(2) == 0 {
		c.a, c.from, c.to = one(r, all), one(r, all), one(r, all)
	}
	return c
}

// spoil replaces a number, a cell, or the number of cells.
func spoil(r *rand.Rand, c *call) {
	cells := one(r, []*[]int{&c.s, &c.t})
	switch r.Intn(7) {
	case 0:
		*one(r, []*int{&c.a, &c.from, &c.to}) = one(r, edgeNumbers())
	case 1:
		c.l = append(c.l, one(r, edgeNumbers()))
	case 2:
		*cells = append(*cells, one(r, [][]int{{0}, {gone}, make([]int, 8), *cells})...)
	case 3:
		*cells = (*cells)[:r.Intn(len(*cells)+1)]
	case 4:
		if len(*cells) > 0 {
			(*cells)[r.Intn(len(*cells))] = one(r, append(edgeNumbers(), 0, gone, anyAddress(r)))
		}
	case 5:
		for i := range *cells {
			if (*cells)[i] == 0 && r.Intn(2) == 0 {
				(*cells)[i] = gone
			}
		}
	default:
		if n := len(*cells); n > 0 {
			i, j := r.Intn(n), r.Intn(n)
			(*cells)[i], (*cells)[j] = (*cells)[j], (*cells)[i]
		}
	}
}
