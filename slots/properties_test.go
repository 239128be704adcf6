package slots_test

import (
	"reflect"
	"slices"
	"testing"

	"shunter/api"
	"shunter/slots"
)

// P7.1 to P7.5: whatever the arguments are, all results are those of the chapter, read literally.
func TestAnyCalls(t *testing.T) {
	r := dice()
	found := map[string]map[any]int{}
	for _, name := range names() {
		found[name] = map[any]int{}
	}
	for range 60000 {
		c := anyCall(r)
		for range r.Intn(3) {
			spoil(r, &c)
		}
		got, want := results(c), expected(c)
		for i, name := range names() {
			if !reflect.DeepEqual(got[i], want[i]) {
				t.Fatalf("%s of %+v: %v; want %v", name, c, got[i], want[i])
			}
			found[name][got[i][len(got[i])-1]]++
		}
	}
	for _, name := range names()[1:] {
		for _, e := range []api.Errno{api.OK, api.ErrForm, api.ErrRange, api.ErrTwice, api.ErrFull} {
			if name != "Of" && found[name][e] < 200 {
				t.Errorf("%s had %d in %d calls only", name, e, found[name][e])
			}
		}
	}
}

// P7.1: Check of any small table, most of whose cells have one of few addresses with the same homes.
func TestAnyCells(t *testing.T) {
	r := dice()
	found := map[api.Errno]int{}
	few := []int{1, 2, 3, 8, 9, 16, 17, 1600}
	for range 200000 {
		cells := make([]int, one(r, []int{8, 8, 16}))
		goneOnes := r.Intn(2 * len(cells))
		for i := range r.Intn(2 * len(cells)) {
			v := gone
			if i >= goneOnes {
				v = one(r, few)
			}
			cells[r.Intn(len(cells))] = v
		}
		cell, e := slots.Check(set(cells...))
		wantCell, want := checkOf(cells)
		if cell != wantCell || e != want {
			t.Fatalf("Check of %v: %d, %d; want %d, %d", cells, cell, e, wantCell, want)
		}
		found[e]++
	}
	for _, e := range []api.Errno{api.OK, api.ErrForm, api.ErrTwice, api.ErrFull} {
		if found[e] < 1000 {
			t.Errorf("%d was found %d times only", e, found[e])
		}
	}
}

// P7.6: whatever was added and dropped before, Has is true exactly for what was added last and not dropped since; List ascends, and has as many as Len says.
func TestSets(t *testing.T) {
	r := dice()
	for round := range 60 {
		s, in := slots.New(), map[int]bool{}
		// In some rounds more is added than dropped, so that tables of many cells are met; in others tables fill with cells that are gone.
		adds := 3 + round%5
		for range 400 {
			a := anyAddress(r)
			var changed bool
			var e api.Errno
			was := in[a]
			if r.Intn(8) < adds {
				s, changed, e = slots.Add(s, a)
				in[a] = true
			} else {
				s, changed, e = slots.Drop(s, a)
				delete(in, a)
			}
			if e != api.OK || changed != (was != in[a]) {
				t.Fatalf("%d: changed %v, was %v, %d", a, changed, was, e)
			}
			b := anyAddress(r)
			if has, e := slots.Has(s, b); has != in[b] || e != api.OK {
				t.Fatalf("Has of %d in %v: %v, %d", b, s, has, e)
			}
		}
		l, e := slots.List(s)
		n, f := slots.Len(s)
		if e != api.OK || f != api.OK || n != len(l) || len(l) != len(in) || !slices.IsSorted(l) {
			t.Fatalf("List %v, %d; Len %d, %d; want %d", l, e, n, f, len(in))
		}
		for a := 1; a <= maxAddress; a++ {
			if has, e := slots.Has(s, a); has != in[a] || has != slices.Contains(l, a) || e != api.OK {
				t.Fatalf("Has of %d: %v, %d; want %v", a, has, e, in[a])
			}
		}
	}
}

// checkGood reports whether a table is good, and has a cell 0 on every path.
func checkGood(t *testing.T, s api.SlSet) {
	t.Helper()
	if cell, e := slots.Check(s); cell != 0 || e != api.OK {
		t.Fatalf("Check of %v: %d, %d", s, cell, e)
	}
	if cell, e := checkOf(s.Cells); cell != 0 || e != api.OK {
		t.Fatalf("%v is not good: %d, %d", s, cell, e)
	}
	for a := 1; a <= maxAddress; a++ {
		path := pathOf(s.Cells, a)
		if s.Cells[path[len(path)-1]] != 0 {
			t.Fatalf("%v has no cell 0 on the path of %d", s, a)
		}
	}
}

// P7.7: all tables that are returned are good, and have a cell 0 on every path.
func TestGood(t *testing.T) {
	r := dice()
	for range 3000 {
		c := anyCall(r)
		got := results(c)
		for _, i := range []int{0, 3, 4, 8, 9, 10} {
			checkGood(t, set(got[i][0].([]int)...))
		}
	}
}

// P7.7: tables stay good, whatever is done with them one after the other, also if nearly as much is dropped as added.
func TestStaysGood(t *testing.T) {
	r := dice()
	s := slots.New()
	for i := range 3000 {
		a, e := anyAddress(r), api.OK
		switch r.Intn(6) {
		case 0, 1, 2:
			s, _, e = slots.Add(s, a)
		case 3, 4:
			if l, _ := slots.List(s); len(l) > 0 {
				s, _, e = slots.Drop(s, one(r, l))
			}
		default:
			s, _, e = slots.Purge(s, a, a+r.Intn(30))
		}
		if cell, f := checkOf(s.Cells); e != api.OK || f != api.OK {
			t.Fatalf("%v is not good: %d, %d, %d", s, cell, e, f)
		}
		if i%100 == 0 {
			checkGood(t, s)
		}
	}
}

// P7.7: a table that Of has made of n different addresses has 8 cells, or fewer than 8 n / 3.
func TestCellsOfOf(t *testing.T) {
	r := dice()
	all := r.Perm(maxAddress)
	for i := range all {
		all[i]++
	}
	for n := 0; n <= maxAddress; n++ {
		if n > 100 && n%17 != 0 && !slices.Contains([]int{192, 193, 384, 385, 768, 769, 1536, 1537, 1600}, n) {
			continue
		}
		s, e := slots.Of(append(slices.Clone(all[:n]), all[:n/2]...))
		if cells := len(s.Cells); e != api.OK || cells != 8 && 3*cells >= 8*n || notZero(s.Cells) != n {
			t.Fatalf("%d addresses: %d cells, %d", n, cells, e)
		}
	}
}

// P7.8: order makes no difference to sets.
func TestOrder(t *testing.T) {
	r := dice()
	for range 3000 {
		c := anyCall(r)
		back := slices.Clone(c.l)
		slices.Reverse(back)
		of, _ := slots.Of(c.l)
		fo, _ := slots.Of(back)
		l, e := slots.List(of)
		m, f := slots.List(fo)
		if e != api.OK || f != api.OK || !slices.Equal(l, m) {
			t.Fatalf("Of of %v: %v, %d; reverse: %v, %d", c.l, l, e, m, f)
		}
		st, _ := slots.Join(set(c.s...), set(c.t...))
		ts, _ := slots.Join(set(c.t...), set(c.s...))
		l, e = slots.List(st)
		m, f = slots.List(ts)
		if e != api.OK || f != api.OK || !slices.Equal(l, m) {
			t.Fatalf("Join of %v and %v: %v, %d; in the other order %v, %d", c.s, c.t, l, e, m, f)
		}
		for _, a := range slices.Concat(addressesOf(c.s), addressesOf(c.t)) {
			if !slices.Contains(l, a) {
				t.Fatalf("Join of %v and %v has no %d", c.s, c.t, a)
			}
		}
	}
}
