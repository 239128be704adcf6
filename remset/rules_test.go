package remset_test

import (
	"reflect"
	"slices"
	"testing"

	"shunter/api"
	"shunter/remset"
	"shunter/slots"
)

// P8.1 to P8.4, R2: functions with a config return the error of Check, before those of slots, targets and cars; with it other results are zero.
func TestErrorsOfCheck(t *testing.T) {
	bad := map[int]call{}
	for _, c := range badConfigs() {
		bad[len(bad)] = call{c: c, s: of(a, nil)}
	}
	bad[len(bad)] = call{c: a}
	bad[len(bad)] = call{c: greatest, s: of(a, nil)}
	for n := nursery; n < a.N; n++ {
		bad[len(bad)] = call{c: a, s: of(a, map[int][]int{n: {1}})}
		for _, l := range badTables() {
			for _, set := range l {
				s := of(a, nil)
				*tableOf(&s, n) = set
				bad[len(bad)] = call{c: a, s: s}
			}
		}
	}
	for _, c := range bad {
		car, e := checkOf(c.c, c.s)
		if e == api.OK {
			t.Fatalf("no error: %+v", c)
		}
		for _, n := range []int{-1, 0, 6, 7, 61, 2000} {
			c.slot, c.target, c.old, c.now, c.car = n, 13, 21, n, n
			got := results(c)
			for i, want := range map[int][]any{1: {car, e}, 2: {zero(), e}, 3: {zero(), e}, 4: {zero(), e}, 7: {[]int{}, e}, 8: {zero(), 0, e}} {
				if !reflect.DeepEqual(got[i], want) {
					t.Errorf("%s of %+v: %v; want %v", names()[i], c, got[i], want)
				}
			}
			if !reflect.DeepEqual(got, expected(c)) {
				t.Errorf("%+v: %v; want %v", c, got, expected(c))
			}
		}
	}
}

// P8.7, R1, R6: any numbers are accepted; the same arguments have the same results.
func TestAnyNumbers(t *testing.T) {
	r := dice()
	for range 5000 {
		c := anyCall(r)
		for _, p := range []*int{&c.slot, &c.target, &c.old, &c.now, &c.car} {
			if r.Intn(3) == 0 {
				*p = int(r.Uint64())
			}
		}
		switch r.Intn(4) {
		case 0:
			*one(r, []*int{&c.c.C, &c.c.N, &c.c.S, &c.c.K, &c.c.Q}) = int(r.Uint64())
		case 1:
			t := tableOf(&c.s, anyNumber(r, c.c))
			t.Cells[r.Intn(len(t.Cells))] = int(r.Uint64())
		}
		if got, want := results(c), expected(c); !reflect.DeepEqual(got, want) || !reflect.DeepEqual(results(c), want) {
			t.Fatalf("%+v: %v; want %v", c, got, want)
		}
	}
}

// spread returns the sets in memory that goes on behind each of their lists, and that memory.
func spread(s api.RmSets) (api.RmSets, []api.SlSet) {
	memory := slices.Concat(s.Cars, []api.SlSet{s.Nursery}, []api.SlSet{{Cells: []int{7}}})
	for i, t := range memory {
		memory[i].Cells = slices.Concat(t.Cells, []int{5, 6, 7, 8})[:len(t.Cells)]
	}
	n := len(s.Cars)
	return api.RmSets{Cars: memory[:n], Nursery: memory[n]}, memory
}

// whole returns what is in memory, also behind the ends of lists.
func whole(memory []api.SlSet) [][]int {
	var l [][]int
	for _, t := range memory {
		l = append(l, slices.Clone(t.Cells[:cap(t.Cells)]))
	}
	return l
}

// P8.7, R3: arguments are not modified, nor what lies behind them in the same memory.
func TestArgumentsStay(t *testing.T) {
	r := dice()
	for range 3000 {
		c := anyCall(r)
		if r.Intn(2) == 0 {
			spoil(r, &c)
		}
		var ofS, ofT []api.SlSet
		c.s, ofS = spread(c.s)
		c.t, ofT = spread(c.t)
		before := [][][]int{whole(ofS), whole(ofT)}
		results(c)
		if after := [][][]int{whole(ofS), whole(ofT)}; !reflect.DeepEqual(after, before) {
			t.Fatalf("%v are now %v", before, after)
		}
	}
}

// overwrite makes all cells of sets, and all of a list, to the end of its capacity, one value.
func overwrite(v any) {
	switch l := v.(type) {
	case []int:
		l = l[:cap(l)]
		for i := range l {
			l[i] = 77
		}
	case [][]int:
		for _, cells := range l {
			overwrite(cells)
		}
	}
}

// goodCalls are calls in which all functions have no error: with slots that are remembered, and with ones that are not, so that nothing changes.
func goodCalls() []call {
	s := of(a, map[int][]int{-1: {6}, 0: {13, 21}, 1: {6, 60}})
	return []call{
		{c: a, s: s, t: copyOf(s), slot: 6, target: 13, old: 13, now: 21, car: 0},
		{c: a, s: s, t: copyOf(s), slot: 22, target: 13, old: 5, now: 1, car: 1},
		{c: a, s: s, t: copyOf(s), slot: 2, target: 13, old: 13, now: 13, car: 4},
		{c: a, s: s, t: copyOf(s), slot: 6, target: 0, old: 0, now: 7, car: 6},
	}
}

// P8.7, R3: results are new memory, also where nothing changes: what is done with one shows neither in arguments, nor in others, nor in later calls.
func TestResultsAreNew(t *testing.T) {
	for k := range goodCalls() {
		want := expected(goodCalls()[k])
		for i, name := range names() {
			c := goodCalls()[k]
			got, other := results(c), results(c)
			overwrite(got[i][0])
			if !reflect.DeepEqual(c, goodCalls()[k]) {
				t.Errorf("%s shares memory with its arguments", name)
			}
			for j := range got {
				if i != j && !reflect.DeepEqual(got[j], want[j]) {
					t.Errorf("%s shares memory with %s", name, names()[j])
				}
			}
			if !reflect.DeepEqual(other, want) || !reflect.DeepEqual(results(c), want) {
				t.Errorf("%s shares memory with another call", name)
			}
		}
		c := goodCalls()[k]
		got := results(c)
		overwrite(cells(c.s))
		overwrite(cells(c.t))
		if !reflect.DeepEqual(got, want) {
			t.Errorf("results depend on arguments afterwards: %v; want %v", got, want)
		}
	}
}

// P8.7, R3: no two tables of one result share memory, and its list of tables is not that of the argument.
func TestTablesAreApart(t *testing.T) {
	for k, c := range goodCalls() {
		for i := range 5 {
			for n := nursery; n < a.N; n++ {
				s := setsOfCall(t, c, i)
				want := cells(copyOf(s))
				overwrite(tableOf(&s, n).Cells)
				*tableOf(&s, n) = api.SlSet{}
				want[(n+a.N+1)%(a.N+1)] = []int{}
				if !reflect.DeepEqual(cells(s), want) {
					t.Errorf("%d, %d: the table of %d shares memory with another one", k, i, n)
				}
			}
			s, before := setsOfCall(t, c, i), cells(copyOf(c.s))
			clear(s.Cars[:cap(s.Cars)])
			if !reflect.DeepEqual(cells(c.s), before) {
				t.Errorf("%d, %d: the list of tables is that of the argument", k, i)
			}
		}
	}
}

// setsOfCall calls one of the functions that return sets.
func setsOfCall(t *testing.T, c call, i int) (s api.RmSets) {
	t.Helper()
	e := api.OK
	switch i {
	case 0:
		s, e = remset.New(c.c)
	case 1:
		s, e = remset.Record(c.c, c.s, c.slot, c.target)
	case 2:
		s, e = remset.Forget(c.c, c.s, c.slot, c.target)
	case 3:
		s, e = remset.Store(c.c, c.s, c.slot, c.old, c.now)
	default:
		s, _, e = remset.Purge(c.c, c.s, c.car)
	}
	if e != api.OK {
		t.Fatalf("%d of %+v: %d", i, c, e)
	}
	return s
}

// R4: lists of tables, or cells, that are nil, or empty, are the same to all functions.
func TestNilIsEmpty(t *testing.T) {
	empty := api.SlSet{Cells: []int{}}
	for i, x := range [][2]api.RmSets{
		{{}, {Cars: []api.SlSet{}, Nursery: empty}},
		{{Nursery: slots.New()}, {Cars: []api.SlSet{}, Nursery: slots.New()}},
		{{Cars: make([]api.SlSet, a.N)}, {Cars: slices.Repeat([]api.SlSet{empty}, a.N), Nursery: empty}},
	} {
		c := call{c: a, s: x[0], t: x[0], slot: 6, target: 13, old: 13, now: 21}
		d := c
		d.s, d.t = x[1], x[1]
		if l, m := results(c), results(d); !reflect.DeepEqual(l, m) {
			t.Errorf("%d: %v; %v", i, l, m)
		}
	}
}
