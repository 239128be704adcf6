package referrers_test

import (
	"math"
	"math/rand"
	"slices"

	"shunter/api"
	"shunter/referrers"
	"shunter/slots"
)

// Limits of arenas, addresses and counts, as the chapter has them.
const (
	maxWords   = 1601
	maxAddress = 1600
	gone       = -1
)

// call has the arguments of all functions: an arena, the cells of a set, an address, two lists of counts, how many referrers are asked for, and bounds.
type call struct {
	w           []uint64
	cells       []int
	a           int
	l, m        []api.RfCount
	q, from, to int
}

// names are those of the functions, in the order of results.
func names() []string {
	return []string{"Check", "Counts", "Of", "Holders", "Popular", "Most", "Merge", "Within"}
}

// results calls all functions, and collects what each returns, the error last. A list that is nil becomes an empty one.
func results(c call) [][]any {
	s := api.SlSet{Cells: c.cells}
	at, e0 := referrers.Check(c.l)
	counts, e1 := referrers.Counts(c.w, s)
	n, e2 := referrers.Of(c.w, s, c.a)
	holders, e3 := referrers.Holders(c.w, s, c.a)
	popular, e4 := referrers.Popular(c.l, c.q)
	most, e5 := referrers.Most(c.l)
	both, e6 := referrers.Merge(c.l, c.m)
	some, e7 := referrers.Within(c.l, c.from, c.to)
	return [][]any{{at, e0}, {list(counts), e1}, {n, e2}, {list(holders), e3}, {list(popular), e4}, {most, e5}, {list(both), e6}, {list(some), e7}}
}

// errorsOf returns the results of all functions that have these errors: those of Check, of Counts, of Of and Holders, and then of the four with counts.
func errorsOf(at int, check, counts, of, popular, most, merge, within api.Errno) [][]any {
	none, noCounts := []int{}, []api.RfCount{}
	return [][]any{{at, check}, {noCounts, counts}, {0, of}, {none, of}, {none, popular}, {api.RfCount{}, most}, {noCounts, merge}, {noCounts, within}}
}

func list[T any](l []T) []T {
	if len(l) == 0 {
		return []T{}
	}
	return l
}

// inLimit says whether a number may be an address, or how many slots refer to one.
func inLimit(n int) bool { return 1 <= n && n <= maxAddress }

// addressesOf returns the addresses of a table, ascending.
func addressesOf(cells []int) []int {
	l := slices.DeleteFunc(slices.Clone(cells), func(a int) bool { return a <= 0 })
	slices.Sort(l)
	return l
}

// cellsOf returns the cells of a table that has these addresses.
func cellsOf(l ...int) []int {
	s, e := slots.Of(l)
	if e != api.OK {
		panic("a table that cannot be made")
	}
	return s.Cells
}

// words returns n words that are 0 but for these ones.
func words(n int, at map[int]uint64) []uint64 {
	w := make([]uint64, n)
	for a, v := range at {
		w[a] = v
	}
	return w
}

// counts returns the counts with these targets and numbers, one after the other.
func counts(l ...int) []api.RfCount {
	var all []api.RfCount
	for i := 0; i < len(l); i += 2 {
		all = append(all, api.RfCount{Target: l[i], N: l[i+1]})
	}
	return all
}

// full returns counts of n targets, from 1 on, each of which has as many.
func full(n, each int) []api.RfCount {
	l := make([]api.RfCount, n)
	for i := range l {
		l[i] = api.RfCount{Target: i + 1, N: each}
	}
	return l
}

// checkOf is what Check returns.
func checkOf(l []api.RfCount) (int, api.Errno) {
	if len(l) > maxAddress {
		return -1, api.ErrLong
	}
	for i, c := range l {
		if !inLimit(c.Target) || !inLimit(c.N) {
			return i, api.ErrRange
		}
		if i > 0 && c.Target <= l[i-1].Target {
			return i, api.ErrForm
		}
	}
	return 0, api.OK
}

// errorOfArena is what functions with an arena return, whatever the address is.
func errorOfArena(w []uint64, cells []int) api.Errno {
	if len(w) > maxWords {
		return api.ErrLong
	}
	if _, e := slots.Check(api.SlSet{Cells: cells}); e != api.OK {
		return e
	}
	for _, slot := range addressesOf(cells) {
		if slot > len(w)-1 || w[slot] > maxAddress {
			return api.ErrRange
		}
	}
	return api.OK
}

// holdersOf returns the slots of a table that have a word, ascending.
func holdersOf(w []uint64, cells []int, a int) []int {
	return slices.DeleteFunc(addressesOf(cells), func(slot int) bool { return w[slot] != uint64(a) })
}

// countsOf returns the targets that slots of a table have, with how many have each.
func countsOf(w []uint64, cells []int) []api.RfCount {
	var n [maxAddress + 1]int
	for _, slot := range addressesOf(cells) {
		n[w[slot]]++
	}
	return fromNumbers(n)
}

// fromNumbers returns the counts of the targets that have any.
func fromNumbers(n [maxAddress + 1]int) []api.RfCount {
	var l []api.RfCount
	for target := 1; target <= maxAddress; target++ {
		if n[target] > 0 {
			l = append(l, api.RfCount{Target: target, N: n[target]})
		}
	}
	return l
}

// numbersOf returns how many each target has.
func numbersOf(l []api.RfCount) (n [maxAddress + 1]int) {
	for _, c := range l {
		n[c.Target] = c.N
	}
	return n
}

// popularOf returns the targets with a number of at least q.
func popularOf(l []api.RfCount, q int) []int {
	var targets []int
	for target, n := range numbersOf(l) {
		if n >= q {
			targets = append(targets, target)
		}
	}
	return targets
}

// mostOf returns the count that comes first if they are ordered by their numbers, descending.
func mostOf(l []api.RfCount) api.RfCount {
	ordered := slices.Clone(l)
	slices.SortStableFunc(ordered, func(a, b api.RfCount) int { return b.N - a.N })
	return ordered[0]
}

// mergeOf returns the sums of two lists of counts, and whether all of them are in the limit.
func mergeOf(l, m []api.RfCount) (both []api.RfCount, good bool) {
	sums := numbersOf(l)
	for target, n := range numbersOf(m) {
		sums[target] += n
	}
	return fromNumbers(sums), slices.Max(sums[:]) <= maxAddress
}

// expected is what all functions return, read from the chapter.
func expected(c call) [][]any {
	at, check := checkOf(c.l)
	ofArena := errorOfArena(c.w, c.cells)
	of, popular, most, merge := ofArena, check, check, check
	if of == api.OK && !inLimit(c.a) {
		of = api.ErrRange
	}
	if check == api.OK {
		if !inLimit(c.q) {
			popular = api.ErrRange
		}
		if len(c.l) == 0 {
			most = api.ErrNone
		}
		_, merge = checkOf(c.m)
	}
	want := errorsOf(at, check, ofArena, of, popular, most, merge, check)
	if ofArena == api.OK {
		want[1][0] = list(countsOf(c.w, c.cells))
	}
	if of == api.OK {
		l := holdersOf(c.w, c.cells, c.a)
		want[2][0], want[3][0] = len(l), list(l)
	}
	if popular == api.OK {
		want[4][0] = list(popularOf(c.l, c.q))
	}
	if most == api.OK {
		want[5][0] = mostOf(c.l)
	}
	if merge == api.OK {
		if both, good := mergeOf(c.l, c.m); good {
			want[6][0] = list(both)
		} else {
			want[6][1] = api.ErrRange
		}
	}
	if check == api.OK {
		want[7][0] = list(slices.DeleteFunc(slices.Clone(c.l), func(x api.RfCount) bool { return x.Target < c.from || x.Target >= c.to }))
	}
	return want
}

// badTables are tables with each error of slots.Check.
func badTables() map[api.Errno][][]int {
	return map[api.Errno][][]int{
		api.ErrForm:  {nil, make([]int, 9), {0, 0, 13, 0, 0, 0, 0, 0}},
		api.ErrLong:  {make([]int, 8193), make([]int, 16384)},
		api.ErrRange: {{0, 0, 0, 1601, 0, 0, 0, 0}, {0, -2, 0, 0, 0, 0, 0, 0}},
		api.ErrTwice: {{41, 0, 0, 0, 0, 0, 0, 41}},
		api.ErrFull:  {{gone, gone, gone, gone, gone, gone, gone, 0}},
	}
}

// badCounts are lists with each error of Check.
func badCounts() map[api.Errno][][]api.RfCount {
	return map[api.Errno][][]api.RfCount{
		api.ErrLong:  {full(1601, 1), full(3000, 0)},
		api.ErrRange: {counts(0, 1), counts(3, 0), counts(1601, 1), counts(3, 1, 4, 1601)},
		api.ErrForm:  {counts(3, 1, 3, 1), counts(4, 1, 3, 1)},
	}
}

// edgeNumbers are numbers that are near addresses, and far from them.
func edgeNumbers() []int {
	return []int{math.MinInt, math.MinInt + 1, math.MinInt32, -1601, -1600, -2, -1, 0, 1, 2, 3, 7, 8, 9, 1599, 1600, 1601, 1602, 3200,
		math.MaxInt32, 1 << 32, 1<<32 + 1, 1 << 62, math.MaxInt - 1, math.MaxInt}
}

// outside are the edge numbers that are not from 1 to 1600.
func outside() []int { return slices.DeleteFunc(edgeNumbers(), inLimit) }

// badWords are words that are no address, and not 0.
func badWords() []uint64 {
	return []uint64{1601, 1602, 1 << 15, 1 << 31, 1 << 32, 1<<32 + 9, 1 << 62, 1 << 63, 1<<63 + 9, math.MaxUint64 - 1600, math.MaxUint64}
}

// dice returns numbers that are the same in each run.
func dice() *rand.Rand { return rand.New(rand.NewSource(1)) }

// one returns any one of them.
func one[T any](r *rand.Rand, l []T) T { return l[r.Intn(len(l))] }

// anyArena returns an arena whose words are addresses, or 0. Many words are the same.
func anyArena(r *rand.Rand) []uint64 {
	w := make([]uint64, one(r, []int{2, 20, 61, 61, 100, maxWords}))
	few := []uint64{0, 1, 9, uint64(r.Intn(maxAddress + 1)), uint64(r.Intn(maxAddress + 1)), maxAddress}
	for i := range w {
		w[i] = one(r, few)
		if r.Intn(3) == 0 {
			w[i] = uint64(r.Intn(maxAddress + 1))
		}
	}
	return w
}

// anySet returns the cells of a table with slots of an arena; some cells may be gone.
func anySet(r *rand.Rand, w []uint64) []int {
	s := slots.New()
	for range r.Intn(40) {
		slot := 1 + r.Intn(len(w)-1)
		s, _, _ = slots.Add(s, slot)
		if r.Intn(4) == 0 {
			s, _, _ = slots.Drop(s, slot)
		}
	}
	return s.Cells
}

// anyCounts returns good counts. Many targets and numbers are small, but some numbers are such that sums are at the limit.
func anyCounts(r *rand.Rand) []api.RfCount {
	var l []api.RfCount
	for target := 1 + r.Intn(5); target <= maxAddress && len(l) < 12 && r.Intn(12) > 0; target += 1 + r.Intn(3) {
		n := 1 + r.Intn(5)
		if r.Intn(4) == 0 {
			n = one(r, []int{799, 800, 800, 801})
		}
		if r.Intn(30) == 0 {
			n = one(r, []int{1595, 1598, 1599, 1600})
		}
		l = append(l, api.RfCount{Target: target, N: n})
		if r.Intn(10) == 0 {
			target += r.Intn(maxAddress)
		}
	}
	return l
}

// anyCall returns arguments that are good.
func anyCall(r *rand.Rand) call {
	c := call{w: anyArena(r), a: 1 + r.Intn(maxAddress), l: anyCounts(r), m: anyCounts(r), q: 1 + r.Intn(6), from: r.Intn(10), to: r.Intn(30)}
	c.cells = anySet(r, c.w)
	if r.Intn(4) > 0 {
		c.a = one(r, []int{1, 9, maxAddress})
	}
	if r.Intn(4) == 0 {
		c.q, c.from, c.to = 1+r.Intn(maxAddress), r.Intn(maxAddress), r.Intn(maxAddress)
	}
	return c
}

// spoil replaces a number, a word, a cell, or a count, or makes a list longer, or shorter.
func spoil(r *rand.Rand, c *call) {
	l := one(r, []*[]api.RfCount{&c.l, &c.l, &c.m})
	switch r.Intn(9) {
	case 0, 1:
		*one(r, []*int{&c.a, &c.q, &c.from, &c.to}) = one(r, edgeNumbers())
	case 2:
		if len(c.w) > 0 {
			c.w[r.Intn(len(c.w))] = one(r, badWords())
		}
	case 3:
		c.w = c.w[:r.Intn(len(c.w)+1)]
	case 4:
		c.w = append(c.w, make([]uint64, 1602-min(len(c.w), 1602))...)
	case 5:
		c.cells = one(r, badTables()[one(r, []api.Errno{api.ErrForm, api.ErrLong, api.ErrRange, api.ErrTwice, api.ErrFull})])
	case 6:
		if len(*l) > 0 {
			x := &(*l)[r.Intn(len(*l))]
			*one(r, []*int{&x.Target, &x.N}) = one(r, edgeNumbers())
		}
	case 7:
		if n := len(*l); n > 0 {
			i, j := r.Intn(n), r.Intn(n)
			(*l)[i], (*l)[j] = (*l)[j], (*l)[i]
		}
	default:
		*l = one(r, badCounts()[one(r, []api.Errno{api.ErrLong, api.ErrRange, api.ErrForm})])
	}
}
