package slots_test

import (
	"reflect"
	"slices"
	"testing"

	"shunter/api"
	"shunter/slots"
)

// bad is a table with an error of Check, and the cell that it names.
type bad struct {
	cells []int
	cell  int
	e     api.Errno
}

// badTables are tables with each error of Check.
func badTables() []bad {
	return []bad{
		{nil, -1, api.ErrForm},
		{make([]int, 7), -1, api.ErrForm},
		{make([]int, 8193), -1, api.ErrLong},
		{make([]int, 16384), -1, api.ErrLong},
		{[]int{0, 0, 0, 1601, 0, 0, 0, 0}, 3, api.ErrRange},
		{[]int{0, 0, 0, 0, -2, 0, 0, 0}, 4, api.ErrRange},
		{[]int{9, 1, 0, 0, 0, 0, 0, 1}, 7, api.ErrTwice},
		{[]int{gone, gone, gone, gone, gone, gone, gone, 0}, -1, api.ErrFull},
		{[]int{gone, gone, gone, gone, gone, gone, gone, gone}, -1, api.ErrFull},
		{[]int{8, 7, 6, 5, 4, 3, 0, 9}, -1, api.ErrFull},
		{[]int{0, 0, 9, 0, 0, 0, 0, 1}, 2, api.ErrForm},
	}
}

// P7.1 to P7.5, R2: all functions with a table return the error of Check, before that of an address; with it other results are zero.
func TestErrorsOfCheck(t *testing.T) {
	for _, b := range badTables() {
		for _, a := range append(noAddresses(), 1, 9, 1600) {
			c := call{s: b.cells, t: make([]int, 8), a: a, from: 0, to: 2000}
			want := errorsOf(b.cell, b.e, b.e, api.OK, b.e)
			want[8][0] = make([]int, 8)
			if got := results(c); !reflect.DeepEqual(got, want) {
				t.Errorf("%v with %d: %v", b, a, got)
			}
		}
	}
}

// P7.4: Join returns the error of Check for the first of its tables that has one.
func TestErrorsOfJoin(t *testing.T) {
	good := []int{9, 0, 0, 0, 0, 0, 0, 1}
	for _, b := range badTables() {
		if s, e := slots.Join(set(b.cells...), set(good...)); len(s.Cells) != 0 || e != b.e {
			t.Errorf("Join of %v and a good one: %v, %d", b, s, e)
		}
		if s, e := slots.Join(set(good...), set(b.cells...)); len(s.Cells) != 0 || e != b.e {
			t.Errorf("Join of a good one and %v: %v, %d", b, s, e)
		}
		for _, d := range badTables() {
			if s, e := slots.Join(set(b.cells...), set(d.cells...)); len(s.Cells) != 0 || e != b.e {
				t.Errorf("Join of %v and %v: %v, %d", b, d, s, e)
			}
		}
	}
}

// P7.2: Has, Add and Drop return ErrRange for what is no address, also for 0 and -1, which cells have; all others have no address.
func TestNoAddress(t *testing.T) {
	cells := []int{9, gone, 17, 0, 0, 0, 0, gone}
	for _, a := range noAddresses() {
		c := call{s: cells, t: cells, a: a, from: a, to: a}
		got, want := results(c), errorsOf(0, api.OK, api.ErrRange, api.OK, api.OK)
		if !reflect.DeepEqual(got[1:5], want[1:5]) {
			t.Errorf("%d: %v; want %v", a, got[1:5], want[1:5])
		}
		if !reflect.DeepEqual(got, expected(c)) {
			t.Errorf("%d: %v; want %v", a, got, expected(c))
		}
	}
}

// P7.8, R1, R6: any numbers are accepted; the same arguments have the same results.
func TestAnyNumbers(t *testing.T) {
	r := dice()
	for range 10000 {
		c := anyCall(r)
		for _, p := range []*int{&c.a, &c.from, &c.to} {
			if r.Intn(2) == 0 {
				*p = int(r.Uint64())
			}
		}
		switch r.Intn(3) {
		case 0:
			c.s[r.Intn(len(c.s))] = int(r.Uint64())
		case 1:
			c.l = append(c.l, int(r.Uint64()))
		}
		if got, want := results(c), expected(c); !reflect.DeepEqual(got, want) || !reflect.DeepEqual(results(c), want) {
			t.Fatalf("%+v: %v; want %v", c, got, want)
		}
	}
}

// P7.8, R3: arguments are not modified, nor what lies behind them in the same memory.
func TestArgumentsStay(t *testing.T) {
	r := dice()
	for range 5000 {
		c := anyCall(r)
		if r.Intn(2) == 0 {
			spoil(r, &c)
		}
		var memory, before [3][]int
		for i, p := range []*[]int{&c.s, &c.t, &c.l} {
			memory[i] = slices.Concat(*p, []int{5, 6, 7, 8})
			before[i] = slices.Clone(memory[i])
			*p = memory[i][:len(*p)]
		}
		results(c)
		if !reflect.DeepEqual(memory, before) {
			t.Fatalf("%v are now %v", before, memory)
		}
	}
}

// overwrite makes all of a list, to the end of its capacity, one value.
func overwrite(l []int) {
	l = l[:cap(l)]
	for i := range l {
		l[i] = 77
	}
}

// goodCalls are calls in which all functions have no error: with an address that is there, so that only Add changes nothing, and with one that is not, so that Drop and Purge change nothing.
func goodCalls() []call {
	c := call{s: []int{9, 0, 0, 0, 0, 0, 0, 1}, t: []int{0, 0, 0, 0, 0, 0, 2, 1}, a: 9, from: 1, to: 9, l: []int{3, 4}}
	d := call{s: []int{9, 0, 0, 0, 0, 0, 0, 1}, t: make([]int, 8), a: 17, from: 9, to: 1}
	return []call{c, d}
}

// P7.8, R3: results are new memory, also where nothing changes: what is done with one shows neither in arguments, nor in others, nor in later calls.
func TestResultsAreNew(t *testing.T) {
	for k := range goodCalls() {
		want := expected(goodCalls()[k])
		for i, name := range names() {
			c := goodCalls()[k]
			got, other := results(c), results(c)
			if l, is := got[i][0].([]int); is {
				overwrite(l)
			}
			if !reflect.DeepEqual(c, goodCalls()[k]) {
				t.Errorf("%s shares memory with its arguments", name)
			}
			for j := range got {
				if i != j && !reflect.DeepEqual(got[j], want[j]) {
					t.Errorf("%s shares memory with %s", name, names()[j])
				}
			}
			if !reflect.DeepEqual(other, want) || !reflect.DeepEqual(results(c), want) {
				t.Errorf("%s shares memory with another call", name)
			}
		}
		c := goodCalls()[k]
		got := results(c)
		overwrite(c.s)
		overwrite(c.t)
		overwrite(c.l)
		if !reflect.DeepEqual(got, want) {
			t.Errorf("results depend on arguments afterwards: %v; want %v", got, want)
		}
	}
}

// R4: cells, or a list of numbers, that are nil, or empty, are the same to all functions.
func TestNilIsEmpty(t *testing.T) {
	good := make([]int, 8)
	for _, c := range [][2]call{
		{{a: 1}, {s: []int{}, t: []int{}, a: 1, l: []int{}}},
		{{s: good, a: 1}, {s: good, t: []int{}, a: 1, l: []int{}}},
		{{t: good, a: 1}, {s: []int{}, t: good, a: 1, l: []int{}}},
	} {
		if l, m := results(c[0]), results(c[1]); !reflect.DeepEqual(l, m) {
			t.Errorf("%v; %v", l, m)
		}
	}
	if s, e := slots.Of([]int{}); !reflect.DeepEqual(s, slots.New()) || e != api.OK {
		t.Errorf("Of of none: %v, %d", s, e)
	}
}
