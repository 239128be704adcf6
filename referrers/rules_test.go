package referrers_test

import (
	"reflect"
	"slices"
	"testing"

	"shunter/api"
)

// P9.1 to P9.4, R2: functions with counts return the error of Check, before those of other numbers; with it other results are zero.
func TestErrorsOfCheck(t *testing.T) {
	for e, lists := range badCounts() {
		for _, l := range lists {
			at, _ := checkOf(l)
			for _, q := range append(outside(), 1, 1600) {
				c := call{w: words(20, nil), cells: cellsOf(3), a: 9, l: l, q: q, from: 0, to: 2000}
				if got, want := results(c), errorsOf(at, e, api.OK, api.OK, e, e, e, e); !reflect.DeepEqual(got, want) {
					t.Errorf("%v with %d: %v; want %v", l[:min(len(l), 4)], q, got, want)
				}
			}
		}
	}
}

// P9.4, R2: Merge returns the error of Check for the first of its lists that has one, before that of a sum.
func TestErrorsOfMerge(t *testing.T) {
	good := counts(1, 1600, 3, 1600, 4, 1600)
	for e, lists := range badCounts() {
		for _, bad := range lists {
			for _, c := range []call{{l: good, m: bad}, {l: bad, m: good}} {
				if got := results(c)[6]; !reflect.DeepEqual(got, []any{[]api.RfCount{}, e}) {
					t.Errorf("a list of the error %d: %v", e, got)
				}
			}
			for f, others := range badCounts() {
				for _, other := range others {
					if got := results(call{l: bad, m: other})[6]; !reflect.DeepEqual(got, []any{[]api.RfCount{}, e}) {
						t.Errorf("lists of the errors %d and %d: %v", e, f, got)
					}
				}
			}
		}
	}
}

// P9.7, R1, R6: any numbers are accepted; the same arguments have the same results.
func TestAnyNumbers(t *testing.T) {
	r := dice()
	for range 10000 {
		c := anyCall(r)
		for _, p := range []*int{&c.a, &c.q, &c.from, &c.to} {
			if r.Intn(2) == 0 {
				*p = int(r.Uint64())
			}
		}
		switch r.Intn(5) {
		case 0:
			c.w[r.Intn(len(c.w))] = r.Uint64()
		case 1:
			c.cells[r.Intn(len(c.cells))] = int(r.Uint64())
		case 2:
			c.l = append(c.l, api.RfCount{Target: int(r.Uint64()), N: int(r.Uint64())})
		case 3:
			c.m = append(c.m, api.RfCount{Target: maxAddress, N: int(r.Uint64())})
		}
		if got, want := results(c), expected(c); !reflect.DeepEqual(got, want) || !reflect.DeepEqual(results(c), want) {
			t.Fatalf("%+v: %v; want %v", c, got, want)
		}
	}
}

// behind returns a list in memory that goes on behind it, and that memory.
func behind[T any](l []T, more ...T) (short, memory []T) {
	memory = slices.Concat(l, more)
	return memory[:len(l)], memory
}

// P9.7, R3: arguments are not modified, nor what lies behind them in the same memory.
func TestArgumentsStay(t *testing.T) {
	r := dice()
	for range 5000 {
		c := anyCall(r)
		if r.Intn(2) == 0 {
			spoil(r, &c)
		}
		var ofWords []uint64
		var ofCells []int
		var ofL, ofM []api.RfCount
		c.w, ofWords = behind(c.w, 5, 6, 7, 8)
		c.cells, ofCells = behind(c.cells, 5, 6, 7, 8)
		c.l, ofL = behind(c.l, counts(5, 6, 7, 8)...)
		c.m, ofM = behind(c.m, counts(5, 6, 7, 8)...)
		before := []any{slices.Clone(ofWords), slices.Clone(ofCells), slices.Clone(ofL), slices.Clone(ofM)}
		results(c)
		if after := []any{ofWords, ofCells, ofL, ofM}; !reflect.DeepEqual(after, before) {
			t.Fatalf("%v are now %v", before, after)
		}
	}
}

// overwrite makes all of a list, to the end of its capacity, one value.
func overwrite(v any) {
	switch l := v.(type) {
	case []int:
		for i := range l[:cap(l)] {
			l[:cap(l)][i] = 77
		}
	case []uint64:
		for i := range l[:cap(l)] {
			l[:cap(l)][i] = 77
		}
	case []api.RfCount:
		for i := range l[:cap(l)] {
			l[:cap(l)][i] = api.RfCount{Target: 77, N: 77}
		}
	}
}

// goodCalls are calls in which no function has an error: with parts as results, and with all that there is, or the same as one argument.
func goodCalls() []call {
	w, cells := words(20, map[int]uint64{3: 9, 4: 9, 5: 7}), cellsOf(3, 4, 5, 6)
	return []call{
		{w: w, cells: cells, a: 9, l: counts(7, 1, 9, 2), m: counts(8, 1, 9, 3), q: 2, from: 1, to: 9},
		{w: slices.Clone(w), cells: slices.Clone(cells), a: 7, l: counts(7, 1, 9, 2), q: 1, from: 0, to: 1601},
		{w: slices.Clone(w), cells: cellsOf(3, 4), a: 9, l: counts(7, 1), m: counts(7, 1), q: 1, from: 7, to: 8},
	}
}

// P9.7, R3: results are new memory, also where nothing is left out: what is done with one shows neither in arguments, nor in others, nor in later calls.
func TestResultsAreNew(t *testing.T) {
	for k := range goodCalls() {
		want := expected(goodCalls()[k])
		for i, name := range names() {
			c := goodCalls()[k]
			got, other := results(c), results(c)
			overwrite(got[i][0])
			if !reflect.DeepEqual(c, goodCalls()[k]) {
				t.Errorf("%s shares memory with its arguments", name)
			}
			for j := range got {
				if i != j && !reflect.DeepEqual(got[j], want[j]) {
					t.Errorf("%s shares memory with %s", name, names()[j])
				}
			}
			if !reflect.DeepEqual(other, want) || !reflect.DeepEqual(results(c), want) {
				t.Errorf("%s shares memory with another call", name)
			}
		}
		c := goodCalls()[k]
		got := results(c)
		for _, v := range []any{c.w, c.cells, c.l, c.m} {
			overwrite(v)
		}
		if !reflect.DeepEqual(got, want) {
			t.Errorf("results depend on arguments afterwards: %v; want %v", got, want)
		}
	}
}

// R4: arenas, cells, and counts, that are nil, or empty, are the same to all functions.
func TestNilIsEmpty(t *testing.T) {
	for i, c := range [][2]call{
		{{a: 1, q: 1}, {w: []uint64{}, cells: []int{}, a: 1, l: []api.RfCount{}, m: []api.RfCount{}, q: 1}},
		{{cells: cellsOf(), a: 1, q: 1}, {w: []uint64{}, cells: cellsOf(), a: 1, l: []api.RfCount{}, q: 1}},
		{{l: counts(7, 1), a: 1, q: 1, to: 9}, {l: counts(7, 1), m: []api.RfCount{}, a: 1, q: 1, to: 9}},
		{{m: counts(7, 1), a: 1, q: 1, to: 9}, {l: []api.RfCount{}, m: counts(7, 1), a: 1, q: 1, to: 9}},
	} {
		if l, m := results(c[0]), results(c[1]); !reflect.DeepEqual(l, m) || !reflect.DeepEqual(l, expected(c[0])) {
			t.Errorf("%d: %v; %v", i, l, m)
		}
	}
}
