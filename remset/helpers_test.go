package remset_test

import (
	"math"
	"math/rand"
	"slices"

	"shunter/api"
	"shunter/remset"
	"shunter/slots"
)

const (
	nursery    = -1
	none       = -2
	gone       = -1
	maxAddress = 1600
)

// a is the config of the chapter's examples: the nursery has the addresses 1 to 4, car 0 5 to 12, car 6 53 to 60.
var a = api.Config{C: 8, N: 7, S: 4, K: 1, Q: 2}

// greatest has the greatest number everywhere: its last address is 1600.
var greatest = api.Config{C: 64, N: 24, S: 64, K: 8, Q: 16}

// call has the arguments of all functions.
type call struct {
	c                           api.Config
	s, t                        api.RmSets
	slot, target, old, now, car int
}

// names are those of the functions, in the order of results.
func names() []string {
	return []string{"New", "Check", "Record", "Forget", "Store", "Into", "Young", "From", "Purge", "Count", "Same"}
}

// results calls all functions, and collects what each returns, the error last. Sets become their cells; a list that is nil becomes an empty one.
func results(c call) [][]any {
	empty, e0 := remset.New(c.c)
	car, e1 := remset.Check(c.c, c.s)
	recorded, e2 := remset.Record(c.c, c.s, c.slot, c.target)
	forgotten, e3 := remset.Forget(c.c, c.s, c.slot, c.target)
	stored, e4 := remset.Store(c.c, c.s, c.slot, c.old, c.now)
	into, e5 := remset.Into(c.s, c.car)
	young, e6 := remset.Young(c.s)
	from, e7 := remset.From(c.c, c.s, c.car)
	purged, dropped, e8 := remset.Purge(c.c, c.s, c.car)
	count, e9 := remset.Count(c.s)
	same := remset.Same(c.s, c.t)
	return [][]any{
		{cells(empty), e0}, {car, e1}, {cells(recorded), e2}, {cells(forgotten), e3}, {cells(stored), e4}, {list(into), e5},
		{list(young), e6}, {list(from), e7}, {cells(purged), dropped, e8}, {count, e9}, {same, api.OK},
	}
}

func list(l []int) []int {
	if len(l) == 0 {
		return []int{}
	}
	return l
}

// cells returns the cells of all tables, those of the nursery last.
func cells(s api.RmSets) [][]int {
	var l [][]int
	for _, t := range s.Cars {
		l = append(l, list(t.Cells))
	}
	return append(l, list(s.Nursery.Cells))
}

// zero is what cells returns for sets that are zero.
func zero() [][]int { return [][]int{{}} }

// copyOf returns the sets in memory of their own.
func copyOf(s api.RmSets) api.RmSets {
	own := api.RmSets{Nursery: api.SlSet{Cells: slices.Clone(s.Nursery.Cells)}}
	for _, t := range s.Cars {
		own.Cars = append(own.Cars, api.SlSet{Cells: slices.Clone(t.Cells)})
	}
	return own
}

// tableOf returns where the table of a car, or of the nursery, is.
func tableOf(s *api.RmSets, n int) *api.SlSet {
	if n == nursery {
		return &s.Nursery
	}
	return &s.Cars[n]
}

// of returns sets of which these have slots; the others are empty.
func of(c api.Config, l map[int][]int) api.RmSets {
	s := api.RmSets{Cars: make([]api.SlSet, c.N)}
	for n := nursery; n < c.N; n++ {
		t, e := slots.Of(l[n])
		if e != api.OK {
			panic("a table that cannot be made")
		}
		*tableOf(&s, n) = t
	}
	return s
}

// slotsOf returns the addresses of a table, ascending.
func slotsOf(t api.SlSet) []int {
	l := slices.DeleteFunc(slices.Clone(t.Cells), func(v int) bool { return v <= 0 })
	slices.Sort(l)
	return l
}

// lists returns the slots of all sets that are not empty.
func lists(s api.RmSets) map[int][]int {
	m := map[int][]int{}
	for n := nursery; n < len(s.Cars); n++ {
		if l := slotsOf(*tableOf(&s, n)); len(l) > 0 {
			m[n] = l
		}
	}
	return m
}

// isGood says whether the numbers of a config are as chapter 2 has them.
func isGood(c api.Config) bool {
	return 8 <= c.C && c.C <= 64 && 7 <= c.N && c.N <= 24 && 4 <= c.S && c.S <= 64 && 1 <= c.K && c.K <= 8 && 2 <= c.Q && c.Q <= 16
}

// last returns the last address of the arena.
func last(c api.Config) int { return c.S + c.N*c.C }

// carOf returns in which car an address of the arena is.
func carOf(c api.Config, a int) int {
	if a <= c.S {
		return nursery
	}
	return (a - c.S - 1) / c.C
}

// first returns the first address of a car, or of the nursery.
func first(c api.Config, car int) int {
	if car == nursery {
		return 1
	}
	return 1 + c.S + car*c.C
}

// setFor returns the set into which a slot belongs for a target; none if it is not remembered.
func setFor(c api.Config, slot, target int) int {
	if target == 0 || carOf(c, slot) == nursery || carOf(c, slot) == carOf(c, target) {
		return none
	}
	return carOf(c, target)
}

// checkOf is what Check returns.
func checkOf(c api.Config, s api.RmSets) (int, api.Errno) {
	if !isGood(c) {
		return none, api.ErrRange
	}
	if len(s.Cars) != c.N {
		return none, api.ErrForm
	}
	for i := range c.N + 1 {
		n := i
		if i == c.N {
			n = nursery
		}
		t := *tableOf(&s, n)
		if _, e := slots.Check(t); e != api.OK {
			return n, e
		}
		for _, slot := range slotsOf(t) {
			if slot > last(c) || carOf(c, slot) == nursery || carOf(c, slot) == n {
				return n, api.ErrRange
			}
		}
	}
	return 0, api.OK
}

// plus returns the sets with a slot in one of them, or as they are for none.
func plus(s api.RmSets, n, slot int) api.RmSets {
	s = copyOf(s)
	if n != none {
		*tableOf(&s, n), _, _ = slots.Add(*tableOf(&s, n), slot)
	}
	return s
}

// minus returns the sets without a slot in one of them, or as they are for none.
func minus(s api.RmSets, n, slot int) api.RmSets {
	s = copyOf(s)
	if n != none {
		*tableOf(&s, n), _, _ = slots.Drop(*tableOf(&s, n), slot)
	}
	return s
}

// purged returns the sets of which no one has a slot in a car, and the car's own one none at all, and how many slots are gone.
func purged(c api.Config, s api.RmSets, car int) (api.RmSets, int) {
	n := len(slotsOf(s.Cars[car]))
	s = copyOf(s)
	s.Cars[car] = api.SlSet{Cells: make([]int, 8)}
	for i := nursery; i < c.N; i++ {
		cells := tableOf(&s, i).Cells
		for k, v := range cells {
			if v > 0 && carOf(c, v) == car {
				cells[k] = gone
				n++
			}
		}
	}
	return s, n
}

// expected is what all functions return, read from the chapter.
func expected(c call) [][]any {
	want := [][]any{{zero(), api.ErrRange}, nil, nil, nil, nil, nil, nil, nil, nil, nil, {sameOf(c.s, c.t), api.OK}}
	if isGood(c.c) {
		want[0] = []any{cells(of(c.c, nil)), api.OK}
	}
	want[5], want[6], want[9] = expectedOfLists(c)
	car, e := checkOf(c.c, c.s)
	want[1] = []any{car, e}
	ofSlots := expectedOfSlots(c, e)
	want[2], want[3], want[4] = ofSlots[0], ofSlots[1], ofSlots[2]
	if e == api.OK && (c.car < 0 || c.car >= c.c.N) {
		e = api.ErrRange
	}
	want[7], want[8] = []any{[]int{}, e}, []any{zero(), 0, e}
	if e == api.OK {
		s, n := purged(c.c, c.s, c.car)
		want[7], want[8] = []any{list(fromOf(c.c, c.s, c.car)), e}, []any{cells(s), n, e}
	}
	return want
}

// expectedOfSlots is what Record, Forget and Store return, if this is the error of Check.
func expectedOfSlots(c call, e api.Errno) [3][]any {
	record, store := e, e
	within := func(n, low int) bool { return n >= low && n <= last(c.c) }
	if e == api.OK && (!within(c.slot, 1) || !within(c.target, 0)) {
		record = api.ErrRange
	}
	if e == api.OK && (!within(c.slot, 1) || !within(c.old, 0) || !within(c.now, 0)) {
		store = api.ErrRange
	}
	want := [3][]any{{zero(), record}, {zero(), record}, {zero(), store}}
	if record == api.OK {
		n := setFor(c.c, c.slot, c.target)
		want[0][0], want[1][0] = cells(plus(c.s, n, c.slot)), cells(minus(c.s, n, c.slot))
	}
	if store == api.OK {
		want[2][0] = cells(c.s)
		if c.old != c.now {
			s := minus(c.s, setFor(c.c, c.slot, c.old), c.slot)
			want[2][0] = cells(plus(s, setFor(c.c, c.slot, c.now), c.slot))
		}
	}
	return want
}

// expectedOfLists is what Into, Young and Count return.
func expectedOfLists(c call) (into, young, count []any) {
	_, e := slots.Check(c.s.Nursery)
	into, young, count = []any{[]int{}, api.ErrRange}, []any{[]int{}, e}, []any{0, api.OK}
	if e == api.OK {
		young[0] = list(slotsOf(c.s.Nursery))
	}
	if c.car >= 0 && c.car < len(c.s.Cars) {
		t := c.s.Cars[c.car]
		if _, e := slots.Check(t); e != api.OK {
			into = []any{[]int{}, e}
		} else {
			into = []any{list(slotsOf(t)), api.OK}
		}
	}
	n := 0
	for _, t := range slices.Concat(c.s.Cars, []api.SlSet{c.s.Nursery}) {
		if _, e := slots.Check(t); e != api.OK {
			return into, young, []any{0, e}
		}
		n += len(slotsOf(t))
	}
	count[0] = n
	return into, young, count
}

// fromOf returns the slots that are in a car, and in any set.
func fromOf(c api.Config, s api.RmSets, car int) []int {
	var l []int
	for slot := first(c, car); slot < first(c, car+1); slot++ {
		for n := nursery; n < c.N; n++ {
			if slices.Contains(tableOf(&s, n).Cells, slot) {
				l = append(l, slot)
				break
			}
		}
	}
	return l
}

// sameOf is what Same returns.
func sameOf(s, t api.RmSets) bool {
	if len(s.Cars) != len(t.Cars) {
		return false
	}
	for n := nursery; n < len(s.Cars); n++ {
		_, e := slots.Check(*tableOf(&s, n))
		_, f := slots.Check(*tableOf(&t, n))
		if e != api.OK || f != api.OK || !slices.Equal(slotsOf(*tableOf(&s, n)), slotsOf(*tableOf(&t, n))) {
			return false
		}
	}
	return true
}

// badConfigs are configs with a number that is not as it should be.
func badConfigs() []api.Config {
	return []api.Config{
		{}, {C: 7, N: 7, S: 4, K: 1, Q: 2}, {C: 8, N: 6, S: 4, K: 1, Q: 2}, {C: 8, N: 7, S: 3, K: 1, Q: 2}, {C: 8, N: 7, S: 4, K: 0, Q: 2}, {C: 8, N: 7, S: 4, K: 1, Q: 1},
		{C: 65, N: 7, S: 4, K: 1, Q: 2}, {C: 8, N: 25, S: 4, K: 1, Q: 2}, {C: 8, N: 7, S: 65, K: 1, Q: 2}, {C: 8, N: 7, S: 4, K: 9, Q: 2}, {C: 8, N: 7, S: 4, K: 1, Q: 17},
		{C: math.MaxInt, N: math.MaxInt, S: math.MaxInt, K: math.MaxInt, Q: math.MaxInt}, {C: math.MinInt, N: math.MinInt, S: math.MinInt, K: math.MinInt, Q: math.MinInt},
	}
}

// badTables are tables with each error of slots.Check.
func badTables() map[api.Errno][]api.SlSet {
	return map[api.Errno][]api.SlSet{
		api.ErrForm:  {{}, {Cells: make([]int, 9)}, {Cells: []int{0, 0, 13, 0, 0, 0, 0, 0}}},
		api.ErrLong:  {{Cells: make([]int, 8193)}, {Cells: make([]int, 16384)}},
		api.ErrRange: {{Cells: []int{0, 0, 0, 1601, 0, 0, 0, 0}}, {Cells: []int{0, -2, 0, 0, 0, 0, 0, 0}}},
		api.ErrTwice: {{Cells: []int{41, 0, 0, 0, 0, 0, 0, 41}}},
		api.ErrFull:  {{Cells: []int{gone, gone, gone, gone, gone, gone, gone, 0}}},
	}
}

// edgeNumbers are numbers that are near addresses and cars of a config, and far from them.
func edgeNumbers(c api.Config) []int {
	return []int{math.MinInt, math.MinInt + 1, math.MinInt32, -1601, -61, -3, -2, -1, 0, 1, 2, c.S, c.S + 1, c.S + c.C, c.S + c.C + 1, c.N - 1, c.N, c.N + 1,
		last(c) - 1, last(c), last(c) + 1, 1600, 1601, math.MaxInt32, 1 << 32, 1<<32 + 6, 1 << 62, math.MaxInt - 1, math.MaxInt}
}

// dice returns numbers that are the same in each run.
func dice() *rand.Rand { return rand.New(rand.NewSource(1)) }

// one returns any one of them.
func one[T any](r *rand.Rand, l []T) T { return l[r.Intn(len(l))] }

// anyConfig returns a good config, most times a small one.
func anyConfig(r *rand.Rand) api.Config {
	return one(r, []api.Config{a, a, a, {C: 9, N: 8, S: 5, K: 2, Q: 3}, {C: 10, N: 7, S: 64, K: 2, Q: 3}, greatest})
}

// anySlot returns an address of a car.
func anySlot(r *rand.Rand, c api.Config) int { return c.S + 1 + r.Intn(c.N*c.C) }

// anyNumber returns the number of a car, or of the nursery.
func anyNumber(r *rand.Rand, c api.Config) int { return r.Intn(c.N+1) - 1 }

// anySets returns sets without an error of Check, in which a slot may be more than once, and cells may be gone.
func anySets(r *rand.Rand, c api.Config) api.RmSets {
	s := of(c, nil)
	for range r.Intn(30) {
		n, slot := anyNumber(r, c), anySlot(r, c)
		if carOf(c, slot) != n {
			s = plus(s, n, slot)
		}
		if r.Intn(3) == 0 {
			s = minus(s, n, slot)
		}
	}
	return s
}

// anyCall returns arguments that are good.
func anyCall(r *rand.Rand) call {
	c := call{c: anyConfig(r)}
	c.s, c.t = anySets(r, c.c), anySets(r, c.c)
	for _, p := range []*int{&c.target, &c.old, &c.now} {
		*p = r.Intn(1 + last(c.c))
	}
	c.slot, c.car = 1+r.Intn(last(c.c)), r.Intn(c.c.N)
	known := lists(c.s)
	n := anyNumber(r, c.c)
	if l := known[n]; len(l) > 0 && r.Intn(3) > 0 {
		c.slot = one(r, l)
		for _, p := range []*int{&c.target, &c.old, &c.now} {
			if r.Intn(2) == 0 {
				*p = first(c.c, n) + r.Intn(c.c.S)%c.c.C
			}
		}
	}
	if r.Intn(3) == 0 {
		c.t = again(c.s)
	}
	return c
}

// again returns sets with the same slots, in tables of which some have other cells.
func again(s api.RmSets) api.RmSets {
	t := copyOf(s)
	for n := nursery; n < len(s.Cars); n++ {
		l := slotsOf(*tableOf(&s, n))
		slices.Reverse(l)
		if n%2 == 0 {
			*tableOf(&t, n), _ = slots.Of(l)
		}
	}
	return t
}

// spoil replaces a number, the config, a table, a cell, or the number of tables.
func spoil(r *rand.Rand, c *call) {
	s := one(r, []*api.RmSets{&c.s, &c.s, &c.t})
	table := &s.Nursery
	if n := r.Intn(len(s.Cars) + 1); n < len(s.Cars) {
		table = &s.Cars[n]
	}
	switch r.Intn(7) {
	case 0, 1:
		*one(r, []*int{&c.slot, &c.target, &c.old, &c.now, &c.car}) = one(r, edgeNumbers(c.c))
	case 2:
		c.c = one(r, append(badConfigs(), a, greatest))
	case 3:
		s.Cars = append(s.Cars, api.SlSet{Cells: make([]int, 8)})
	case 4:
		s.Cars = s.Cars[:r.Intn(len(s.Cars)+1)]
	case 5:
		*table = one(r, badTables()[one(r, []api.Errno{api.ErrForm, api.ErrLong, api.ErrRange, api.ErrTwice, api.ErrFull})])
	default:
		if t, _, e := slots.Add(*table, 1+r.Intn(maxAddress)); e == api.OK {
			*table = t
		}
	}
}
