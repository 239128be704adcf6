package slots_test

import (
	"slices"
	"testing"

	"shunter/api"
	"shunter/slots"
)

// is reports whether a set has just these cells.
func is(s api.SlSet, cells ...int) bool { return slices.Equal(s.Cells, cells) }

// P7.1: New is the table of 8 cells that are 0; it is good.
func TestNew(t *testing.T) {
	s := slots.New()
	cell, e := slots.Check(s)
	n, f := slots.Len(s)
	if !is(s, 0, 0, 0, 0, 0, 0, 0, 0) || cell != 0 || e != api.OK || n != 0 || f != api.OK {
		t.Errorf("New: %v; Check %d, %d; Len %d, %d", s, cell, e, n, f)
	}
}

// P7.2: an address comes to its home, in empty tables of all sizes; then it is in the set, and no other one is.
func TestHomes(t *testing.T) {
	for _, n := range sizes() {
		empty := set(make([]int, n)...)
		for a := 1; a <= maxAddress; a++ {
			s, added, e := slots.Add(empty, a)
			if len(s.Cells) != n || notZero(s.Cells) != 1 || s.Cells[a*40503%n] != a || !added || e != api.OK {
				t.Fatalf("Add of %d to %d cells: %v, %d", a, n, added, e)
			}
		}
	}
	for _, c := range [][3]int{{8, 1, 7}, {8, 8, 0}, {16, 1, 7}, {16, 12, 4}, {8192, 1, 7735}, {8192, 2, 7278}, {8192, 1600, 6080}} {
		if s, _, e := slots.Add(set(make([]int, c[0])...), c[1]); e != api.OK || s.Cells[c[2]] != c[1] {
			t.Errorf("Add of %d to %d cells: %v, %d", c[1], c[0], s, e)
		}
	}
	for a := 1; a <= maxAddress; a++ {
		s, _, _ := slots.Add(slots.New(), a)
		for b := 1; b <= maxAddress; b += 7 {
			if has, e := slots.Has(s, b); has != (a == b) || e != api.OK {
				t.Fatalf("Has of %d in the set of %d: %v, %d", b, a, has, e)
			}
		}
		if has, e := slots.Has(s, a); !has || e != api.OK {
			t.Fatalf("Has of %d: %v, %d", a, has, e)
		}
	}
}

// P7.2: an address is found behind cells that are gone, or have others, and after the last cell at the first one, but not behind a cell 0. Where there is none, nothing is found.
func TestHas(t *testing.T) {
	for i, c := range []struct {
		cells []int
		a     int
		want  bool
	}{
		{[]int{0, 0, 0, 0, 0, 0, 0, 0}, 1, false},
		{[]int{0, 0, 0, 0, 0, 0, 0, 1}, 1, true},
		{[]int{0, 0, 0, 0, 0, 0, 0, 1}, 9, false},
		{[]int{9, 0, 0, 0, 0, 0, 0, 1}, 9, true},
		{[]int{9, 17, 0, 0, 0, 0, 0, 1}, 17, true},
		{[]int{9, gone, 17, 0, 0, 0, 0, gone}, 17, true},
		{[]int{9, gone, 17, 0, 0, 0, 0, gone}, 9, true},
		{[]int{9, gone, 17, 0, 0, 0, 0, gone}, 1, false},
		{[]int{gone, gone, gone, gone, 0, 0, gone, gone}, 1, false},
		{[]int{gone, 2, gone, gone, 0, 0, gone, gone}, 2, true},
		{[]int{8, 7, 6, 5, 4, 3, 0, 0}, 3, true},
		{[]int{8, 7, 6, 5, 4, 3, 0, 0}, 11, false},
		{[]int{8, 7, 6, 5, 4, 3, 0, 0}, 1600, false},
	} {
		if has, e := slots.Has(set(c.cells...), c.a); has != c.want || e != api.OK {
			t.Errorf("%d: Has of %d in %v: %v, %d", i, c.a, c.cells, has, e)
		}
	}
}

// P7.2: an address that is not there comes into the first cell of its path that is gone, though more of them and a cell 0 follow, or into the cell 0 at the end; one that is there stays where it is, and the table is the same.
func TestAdd(t *testing.T) {
	for i, c := range []struct {
		cells []int
		a     int
		want  []int
		added bool
	}{
		{[]int{0, 0, 0, 0, 0, 0, 0, 0}, 1, []int{0, 0, 0, 0, 0, 0, 0, 1}, true},
		{[]int{0, 0, 0, 0, 0, 0, 0, 1}, 9, []int{9, 0, 0, 0, 0, 0, 0, 1}, true},
		{[]int{9, 0, 0, 0, 0, 0, 0, 1}, 17, []int{9, 17, 0, 0, 0, 0, 0, 1}, true},
		{[]int{8, 0, 0, 0, 0, 0, 2, 1}, 10, []int{8, 10, 0, 0, 0, 0, 2, 1}, true},
		{[]int{9, 0, 0, 0, 0, 0, 0, gone}, 17, []int{9, 0, 0, 0, 0, 0, 0, 17}, true},
		{[]int{9, gone, gone, 0, 0, 0, 0, 1}, 17, []int{9, 17, gone, 0, 0, 0, 0, 1}, true},
		{[]int{gone, 9, gone, 0, 0, 0, 0, gone}, 17, []int{gone, 9, gone, 0, 0, 0, 0, 17}, true},
		{[]int{gone, 9, gone, 0, 0, 0, 0, gone}, 9, []int{gone, 9, gone, 0, 0, 0, 0, gone}, false},
		{[]int{gone, 9, 1, 0, 0, 0, 0, gone}, 1, []int{gone, 9, 1, 0, 0, 0, 0, gone}, false},
		{[]int{0, 0, 0, gone, 0, 0, 0, 0}, 1, []int{0, 0, 0, gone, 0, 0, 0, 1}, true},
		{[]int{0, gone, 0, 0, 0, 0, 0, 1}, 9, []int{9, gone, 0, 0, 0, 0, 0, 1}, true},
		{[]int{gone, gone, gone, gone, gone, gone, 0, 0}, 8, []int{8, gone, gone, gone, gone, gone, 0, 0}, true},
		{[]int{8, 7, 6, 5, 4, gone, 0, 0}, 11, []int{8, 7, 6, 5, 4, 11, 0, 0}, true},
		{[]int{8, 7, 6, 5, 4, 3, 0, 0}, 8, []int{8, 7, 6, 5, 4, 3, 0, 0}, false},
		{[]int{8, 7, 6, 5, 4, 0, 0, 0}, 3, []int{8, 7, 6, 5, 4, 3, 0, 0}, true},
	} {
		s, added, e := slots.Add(set(c.cells...), c.a)
		if !is(s, c.want...) || added != c.added || e != api.OK {
			t.Errorf("%d: Add of %d to %v: %v, %v, %d", i, c.a, c.cells, s, added, e)
		}
	}
}

// P7.2: a table of which more than three quarters are not 0 then is built anew, its addresses being added ascending: with twice as many cells if it has more than three eighths of addresses, and otherwise with as many.
func TestAnew(t *testing.T) {
	for i, c := range []struct {
		cells []int
		a     int
		want  []int
	}{
		{[]int{8, gone, gone, gone, gone, 0, 0, 1}, 2, []int{8, 0, 0, 0, 0, 0, 2, 1}},
		{[]int{gone, gone, gone, gone, gone, gone, 0, 0}, 2, []int{0, 0, 0, 0, 0, 0, 2, 0}},
		{[]int{17, 9, gone, gone, gone, 0, 0, gone}, 2, []int{17, 0, 0, 0, 0, 0, 2, 9}},
		{[]int{gone, 17, 9, gone, gone, 0, 0, gone}, 10, []int{17, 0, 0, 0, 0, 0, 10, 9}},
		{[]int{8, gone, gone, gone, 12, 0, 0, 1}, 2, []int{0, 0, 0, 0, 12, 0, 0, 1, 8, 0, 0, 0, 0, 0, 2, 0}},
		{[]int{8, 7, 6, 5, 4, 3, 0, 0}, 1, []int{0, 7, 0, 5, 0, 3, 0, 1, 8, 0, 6, 0, 4, 0, 0, 0}},
		{[]int{33, 17, 1, 0, 0, 3, 2, 49}, 4, []int{0, 0, 0, 0, 0, 3, 0, 1, 17, 33, 49, 0, 4, 0, 2, 0}},
	} {
		s, added, e := slots.Add(set(c.cells...), c.a)
		if !is(s, c.want...) || !added || e != api.OK {
			t.Errorf("%d: Add of %d to %v: %v, %v, %d; want %v", i, c.a, c.cells, s, added, e, c.want)
		}
	}
}

// P7.2: the same for tables of all sizes: when they are built anew, and with how many cells; a cell that was gone does not count twice.
func TestAnewSizes(t *testing.T) {
	for _, n := range sizes() {
		for _, k := range []int{1, 3*n/8 - 1, 3 * n / 8, 3*n/8 + 1, 3 * n / 4, 3*n/4 + 1} {
			if k > maxAddress {
				continue
			}
			before := plus(make([]int, n), upTo(k-1)...)
			for _, used := range []int{k - 1, 3*n/4 - 1, 3 * n / 4} {
				if used < k-1 {
					continue
				}
				cells := crowd(before, used, k)
				want, isAnew := n, used == 3*n/4
				if isAnew && k > 3*n/8 {
					want = 2 * n
				}
				s, added, e := slots.Add(set(cells...), k)
				if len(s.Cells) != want || !added || e != api.OK || (countOf(s.Cells, gone) == 0) != (isAnew || used == k-1) {
					t.Errorf("%d addresses, %d of %d cells used: %d cells, %d gone, %d", k, used, n, len(s.Cells), countOf(s.Cells, gone), e)
				}
				if !slices.Equal(s.Cells, plus(cells, k)) || !slices.Equal(addressesOf(s.Cells), upTo(k)) {
					t.Errorf("%d addresses, %d of %d cells used: %v", k, used, n, s)
				}
			}
		}
	}
}

// P7.2: a table of which three quarters are used is not built anew for an address that comes into a cell that was gone, nor for one that is there.
func TestNotAnew(t *testing.T) {
	for _, n := range sizes() {
		cells := crowd(plus(make([]int, n), 2, 3), 3*n/4, 1)
		a := 0
		for i := 1; i <= maxAddress; i++ {
			if cells[i*40503%n] == gone {
				a = i
				break
			}
		}
		want := slices.Clone(cells)
		want[a*40503%n] = a
		s, added, e := slots.Add(set(cells...), a)
		if !is(s, want...) || !added || e != api.OK {
			t.Errorf("%d cells: Add of %d: %v, %d", n, a, added, e)
		}
		s, added, e = slots.Add(set(cells...), 3)
		if !is(s, cells...) || added || e != api.OK {
			t.Errorf("%d cells: Add again: %v, %d", n, added, e)
		}
	}
}

// P7.2: the cell of an address that is dropped becomes gone, all others stay; nothing is built anew, whatever is left. Without the address, the table is the same.
func TestDrop(t *testing.T) {
	for i, c := range []struct {
		cells   []int
		a       int
		want    []int
		dropped bool
	}{
		{[]int{9, 0, 0, 0, 0, 0, 0, 1}, 1, []int{9, 0, 0, 0, 0, 0, 0, gone}, true},
		{[]int{9, 0, 0, 0, 0, 0, 0, 1}, 9, []int{gone, 0, 0, 0, 0, 0, 0, 1}, true},
		{[]int{9, 0, 0, 0, 0, 0, 0, 1}, 17, []int{9, 0, 0, 0, 0, 0, 0, 1}, false},
		{[]int{9, 0, 0, 0, 0, 0, 0, gone}, 9, []int{gone, 0, 0, 0, 0, 0, 0, gone}, true},
		{[]int{9, 0, 0, 0, 0, 0, 0, gone}, 1, []int{9, 0, 0, 0, 0, 0, 0, gone}, false},
		{[]int{0, 0, 0, 0, 0, 0, 0, 0}, 1600, []int{0, 0, 0, 0, 0, 0, 0, 0}, false},
		{[]int{8, 7, 6, 5, 4, 3, 0, 0}, 5, []int{8, 7, 6, gone, 4, 3, 0, 0}, true},
		{[]int{gone, gone, gone, gone, gone, 3, 0, 0}, 3, []int{gone, gone, gone, gone, gone, gone, 0, 0}, true},
	} {
		s, dropped, e := slots.Drop(set(c.cells...), c.a)
		if !is(s, c.want...) || dropped != c.dropped || e != api.OK {
			t.Errorf("%d: Drop of %d from %v: %v, %v, %d", i, c.a, c.cells, s, dropped, e)
		}
	}
}

// P7.3: Len and List have all addresses, ascending, and nothing else, wherever they are in the table.
func TestLenAndList(t *testing.T) {
	for i, c := range []struct{ cells, want []int }{
		{[]int{0, 0, 0, 0, 0, 0, 0, 0}, nil},
		{[]int{gone, gone, gone, gone, gone, gone, 0, 0}, nil},
		{[]int{9, 17, 1600, 0, 0, 0, 2, 1}, []int{1, 2, 9, 17, 1600}},
		{[]int{9, gone, 17, 0, 0, 0, 0, gone}, []int{9, 17}},
		{[]int{8, 7, 6, 5, 4, 3, 0, 0}, []int{3, 4, 5, 6, 7, 8}},
	} {
		n, e := slots.Len(set(c.cells...))
		l, f := slots.List(set(c.cells...))
		if n != len(c.want) || e != api.OK || !slices.Equal(l, c.want) || f != api.OK {
			t.Errorf("%d: Len %d, %d; List %v, %d", i, n, e, l, f)
		}
	}
	s, _ := slots.Of(upTo(maxAddress))
	if l, e := slots.List(s); !slices.Equal(l, upTo(maxAddress)) || e != api.OK {
		t.Errorf("List of all: %v, %d", l, e)
	}
}

// P7.3, P7.5: Range has, and Purge drops, the addresses from from on, and below to; these may be any numbers, also in the wrong order.
func TestRangeAndPurge(t *testing.T) {
	all := []int{1, 2, 9, 17, 500, 1599, 1600}
	cells := minus(plus(make([]int, 16), append(all, 25, 26)...), 25, 26)
	for _, from := range append(edgeNumbers(), 500) {
		for _, to := range append(edgeNumbers(), 500) {
			var want []int
			for _, a := range all {
				if a >= from && a < to {
					want = append(want, a)
				}
			}
			l, e := slots.Range(set(cells...), from, to)
			if !slices.Equal(l, want) || e != api.OK {
				t.Errorf("Range from %d to %d: %v, %d; want %v", from, to, l, e, want)
			}
			s, n, e := slots.Purge(set(cells...), from, to)
			if !is(s, minus(cells, want...)...) || n != len(want) || e != api.OK {
				t.Errorf("Purge from %d to %d: %v, %d, %d; want %v", from, to, s, n, e, want)
			}
		}
	}
}

// P7.5: Purge leaves the cells that are gone, and those of other addresses; nothing is built anew.
func TestPurge(t *testing.T) {
	for i, c := range []struct {
		cells    []int
		from, to int
		want     []int
		dropped  int
	}{
		{[]int{8, 7, 6, 5, 4, 3, 0, 0}, 4, 7, []int{8, 7, gone, gone, gone, 3, 0, 0}, 3},
		{[]int{8, 7, 6, 5, 4, 3, 0, 0}, 0, 2000, []int{gone, gone, gone, gone, gone, gone, 0, 0}, 6},
		{[]int{8, 7, 6, 5, 4, 3, 0, 0}, 9, 2000, []int{8, 7, 6, 5, 4, 3, 0, 0}, 0},
		{[]int{8, 7, 6, 5, 4, 3, 0, 0}, 7, 4, []int{8, 7, 6, 5, 4, 3, 0, 0}, 0},
		{[]int{gone, 9, 0, 0, 0, 0, 0, gone}, -5, 9, []int{gone, 9, 0, 0, 0, 0, 0, gone}, 0},
		{[]int{gone, 9, 0, 0, 0, 0, 0, gone}, -5, 10, []int{gone, gone, 0, 0, 0, 0, 0, gone}, 1},
		{[]int{9, 17, 25, 0, 0, 0, 0, 1}, 1, 18, []int{gone, gone, 25, 0, 0, 0, 0, gone}, 3},
	} {
		s, dropped, e := slots.Purge(set(c.cells...), c.from, c.to)
		if !is(s, c.want...) || dropped != c.dropped || e != api.OK {
			t.Errorf("%d: Purge of %v from %d to %d: %v, %d, %d", i, c.cells, c.from, c.to, s, dropped, e)
		}
	}
}

// P7.4: Of adds its numbers in their order, each once; it takes up to 4000 of them, and tells that there are more before it tells that one is no address.
func TestOf(t *testing.T) {
	for i, c := range []struct{ l, want []int }{
		{nil, []int{0, 0, 0, 0, 0, 0, 0, 0}},
		{[]int{9, 1}, []int{1, 0, 0, 0, 0, 0, 0, 9}},
		{[]int{9, 1, 9, 9, 1, 1, 9, 1, 9}, []int{1, 0, 0, 0, 0, 0, 0, 9}},
		{[]int{17, 1, 9, 8, 2, 10}, []int{1, 9, 8, 10, 0, 0, 2, 17}},
		{[]int{49, 33, 17, 1, 2, 3, 4}, []int{0, 0, 0, 0, 0, 3, 0, 1, 17, 33, 49, 0, 4, 0, 2, 0}},
	} {
		if s, e := slots.Of(c.l); !is(s, c.want...) || e != api.OK {
			t.Errorf("%d: Of of %v: %v, %d", i, c.l, s, e)
		}
	}
	for _, n := range []int{3999, 4000, 4001, 5000} {
		for _, a := range append(noAddresses(), 1, 1600) {
			for _, at := range []int{0, n / 2, n - 1} {
				l := slices.Repeat([]int{5}, n)
				l[at] = a
				want := api.OK
				if n > maxNumbers {
					want = api.ErrLong
				} else if a < 1 || a > maxAddress {
					want = api.ErrRange
				}
				s, e := slots.Of(l)
				if e != want || want != api.OK && len(s.Cells) != 0 || want == api.OK && !is(s, plus(make([]int, 8), l...)...) {
					t.Errorf("Of of %d numbers with %d at %d: %v, %d", n, a, at, s, e)
				}
			}
		}
	}
}

// P7.2, P7.4: a table grows when more than three quarters of it are addresses, up to all addresses that there are.
func TestGrowth(t *testing.T) {
	s, cells := slots.New(), 8
	for k := 1; k <= maxAddress; k++ {
		// The addresses come in an order in which many have the same home.
		a := 1 + (k-1)*977%maxAddress
		t2, added, e := slots.Add(s, a)
		if slices.Contains([]int{7, 13, 25, 49, 97, 193, 385, 769, 1537}, k) {
			cells *= 2
		}
		if len(t2.Cells) != cells || !added || e != api.OK || notZero(t2.Cells) != k {
			t.Fatalf("%d addresses: %d cells, %v, %d", k, len(t2.Cells), added, e)
		}
		s = t2
	}
	if cell, e := slots.Check(s); cells != 4096 || cell != 0 || e != api.OK {
		t.Errorf("Check: %d, %d", cell, e)
	}
}

// P7.4: Join adds the addresses of the second table to the first one, ascending, whatever their order in it is; cells of the second one that are gone do not count.
func TestJoin(t *testing.T) {
	for i, c := range []struct{ s, t, want []int }{
		{[]int{0, 0, 0, 0, 0, 0, 0, 0}, []int{1, 0, 0, 0, 0, 0, 0, 9}, []int{9, 0, 0, 0, 0, 0, 0, 1}},
		{[]int{1, 0, 0, 0, 0, 0, 0, 9}, []int{0, 0, 0, 0, 0, 0, 0, 0}, []int{1, 0, 0, 0, 0, 0, 0, 9}},
		{[]int{1, 0, 0, 0, 0, 0, 0, 9}, []int{9, 0, 0, 0, 0, 0, 0, 1}, []int{1, 0, 0, 0, 0, 0, 0, 9}},
		{[]int{9, 0, 0, 0, 0, 0, 0, gone}, []int{gone, 17, 0, 0, 0, 0, 2, gone}, []int{9, 0, 0, 0, 0, 0, 2, 17}},
		{[]int{0, 0, 0, 0, 0, 0, 0, 25}, []int{17, 9, gone, 0, 0, 0, 0, 1}, []int{1, 9, 17, 0, 0, 0, 0, 25}},
		{[]int{33, 17, 1, 0, 0, 3, 2, 49}, []int{0, 0, 0, 0, 4, 0, 0, 0}, []int{0, 0, 0, 0, 0, 3, 0, 1, 17, 33, 49, 0, 4, 0, 2, 0}},
		{[]int{gone, gone, gone, gone, gone, gone, 0, 0}, []int{9, 0, 0, 0, 0, 0, 0, 1}, []int{9, 0, 0, 0, 0, 0, 0, 1}},
		{make([]int, 16), []int{9, 0, 0, 0, 0, 0, 0, 1}, []int{0, 0, 0, 0, 0, 0, 0, 1, 0, 0, 0, 0, 0, 0, 0, 9}},
		{[]int{0, 0, 0, 0, 0, 0, 0, 1}, make([]int, 64), []int{0, 0, 0, 0, 0, 0, 0, 1}},
	} {
		if s, e := slots.Join(set(c.s...), set(c.t...)); !is(s, c.want...) || e != api.OK {
			t.Errorf("%d: Join of %v and %v: %v, %d", i, c.s, c.t, s, e)
		}
	}
	odd := slices.DeleteFunc(upTo(maxAddress), func(a int) bool { return a%2 == 0 })
	s, _ := slots.Of(odd)
	u, _ := slots.Of(upTo(maxAddress))
	all, e := slots.Join(s, u)
	if !is(all, plus(s.Cells, upTo(maxAddress)...)...) || e != api.OK {
		t.Errorf("Join of all: %v, %d", all, e)
	}
}

// The chapter's examples.
func TestExamples(t *testing.T) {
	s, e := slots.Of([]int{1, 2})
	if !is(s, 0, 0, 0, 0, 0, 0, 2, 1) || e != api.OK {
		t.Errorf("Of of 1, 2: %v, %d", s, e)
	}
	s, e = slots.Of([]int{1, 9})
	if !is(s, 9, 0, 0, 0, 0, 0, 0, 1) || e != api.OK {
		t.Errorf("Of of 1, 9: %v, %d", s, e)
	}
	s, dropped, e := slots.Drop(s, 1)
	has, f := slots.Has(s, 9)
	if !is(s, 9, 0, 0, 0, 0, 0, 0, -1) || !dropped || e != api.OK || !has || f != api.OK {
		t.Errorf("Drop of 1: %v, %v, %d; Has of 9: %v, %d", s, dropped, e, has, f)
	}
	s, added, e := slots.Add(s, 17)
	if !is(s, 9, 0, 0, 0, 0, 0, 0, 17) || !added || e != api.OK {
		t.Errorf("Add of 17: %v, %v, %d", s, added, e)
	}
	for _, l := range [][]int{{1, 2, 3, 4, 5, 6, 7}, {100, 900, 17, 1600, 3, 5, 7}} {
		if s, e := slots.Of(l); len(s.Cells) != 16 || e != api.OK {
			t.Errorf("Of of %v: %v, %d", l, s, e)
		}
	}
	if s, added, e := slots.Add(slots.New(), 0); len(s.Cells) != 0 || added || e != api.ErrRange {
		t.Errorf("Add of 0: %v, %v, %d", s, added, e)
	}
	if cell, e := slots.Check(set(make([]int, 9)...)); cell != -1 || e != api.ErrForm {
		t.Errorf("Check of 9 cells: %d, %d", cell, e)
	}
}
