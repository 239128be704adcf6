package remset_test

import (
	"reflect"
	"slices"
	"testing"

	"shunter/api"
	"shunter/remset"
	"shunter/slots"
)

// P8.1: New has one empty table for each car, and the nursery's; a config that is not good has its error.
func TestNew(t *testing.T) {
	for n := 7; n <= 24; n++ {
		c := greatest
		c.N = n
		s, e := remset.New(c)
		if e != api.OK || len(s.Cars) != n {
			t.Fatalf("New of %v: %v, %d", c, s, e)
		}
		for _, set := range append(s.Cars, s.Nursery) {
			if !slices.Equal(set.Cells, make([]int, 8)) {
				t.Errorf("New of %v: %v", c, s)
			}
		}
		if car, e := remset.Check(c, s); car != 0 || e != api.OK {
			t.Errorf("Check of New of %v: %d, %d", c, car, e)
		}
	}
	for _, c := range badConfigs() {
		if s, e := remset.New(c); !reflect.DeepEqual(cells(s), zero()) || e != api.ErrRange {
			t.Errorf("New of %v: %v, %d", c, s, e)
		}
	}
}

// P8.1: the error of the config comes first, then that there are not as many sets as cars, whatever is in them.
func TestCheckOfWhole(t *testing.T) {
	bad := api.SlSet{Cells: make([]int, 9)}
	for _, c := range badConfigs() {
		for _, s := range []api.RmSets{{}, of(a, nil), {Cars: []api.SlSet{bad}, Nursery: bad}} {
			if car, e := remset.Check(c, s); car != -2 || e != api.ErrRange {
				t.Errorf("Check of %v: %d, %d", c, car, e)
			}
		}
	}
	for _, c := range []api.Config{a, greatest} {
		for n := 0; n <= 30; n++ {
			s := api.RmSets{Cars: slices.Repeat([]api.SlSet{slots.New()}, n), Nursery: slots.New()}
			wantCar, want := -2, api.ErrForm
			if n == c.N {
				wantCar, want = 0, api.OK
			}
			if car, e := remset.Check(c, s); car != wantCar || e != want {
				t.Errorf("Check of %d sets with %v: %d, %d", n, c, car, e)
			}
			if n != c.N {
				s.Nursery = bad
				if n > 0 {
					s.Cars[0] = bad
				}
				if car, e := remset.Check(c, s); car != -2 || e != api.ErrForm {
					t.Errorf("Check of %d bad sets with %v: %d, %d", n, c, car, e)
				}
			}
		}
	}
}

// P8.1: each set with each error of slots.Check, which comes before those of its slots.
func TestCheckOfTables(t *testing.T) {
	for e, l := range badTables() {
		for i, bad := range l {
			for n := nursery; n < a.N; n++ {
				s := of(a, nil)
				*tableOf(&s, n) = bad
				if car, got := remset.Check(a, s); car != n || got != e {
					t.Errorf("Check with table %d of the error %d as the set of %d: %d, %d", i, e, n, car, got)
				}
			}
		}
	}
	s := of(a, nil)
	s.Cars[0] = api.SlSet{Cells: []int{5, 0, 0, 0, 0, 0, 0, 5}}
	if car, e := remset.Check(a, s); car != 0 || e != api.ErrTwice {
		t.Errorf("Check of a table with two errors: %d, %d", car, e)
	}
}

// P8.1: each slot in each set: it may be in any car but that of the set; not in the nursery, and not behind the arena.
func TestCheckOfSlots(t *testing.T) {
	for slot := 1; slot <= maxAddress; slot++ {
		for n := nursery; n < a.N; n++ {
			if slot > 100 && slot%100 != 0 {
				continue
			}
			wantCar, want := 0, api.OK
			if slot <= 4 || slot > 60 || (slot-5)/8 == n {
				wantCar, want = n, api.ErrRange
			}
			s := of(a, map[int][]int{n: {slot}})
			if car, e := remset.Check(a, s); car != wantCar || e != want {
				t.Errorf("Check with %d in the set of %d: %d, %d", slot, n, car, e)
			}
			// A good slot in front of it, and in all other sets.
			good := map[int][]int{}
			for k := nursery; k < a.N; k++ {
				good[k] = []int{5 + 8*((k+1)%a.N)}
			}
			good[n] = append(good[n], slot)
			if car, e := remset.Check(a, of(a, good)); car != wantCar || e != want {
				t.Errorf("Check with %d in the set of %d, and others: %d, %d", slot, n, car, e)
			}
		}
	}
}

// P8.1: the least car with an error is the one that is named, and the nursery only after all cars.
func TestCheckOfSeveral(t *testing.T) {
	for n := nursery; n < a.N; n++ {
		for k := nursery; k < a.N; k++ {
			s := of(a, map[int][]int{n: {1}})
			wantCar, want := n, api.ErrRange
			if k != n {
				*tableOf(&s, k) = api.SlSet{Cells: make([]int, 9)}
			}
			if n == nursery || k != nursery && k < n {
				wantCar = k
				if k != n {
					want = api.ErrForm
				}
			}
			if car, e := remset.Check(a, s); car != wantCar || e != want {
				t.Errorf("Check with errors of %d and %d: %d, %d", n, k, car, e)
			}
		}
	}
}

// P8.2: each slot with each target: it comes into the set of the target's car, or of the nursery, if it is in another car.
func TestRecordAll(t *testing.T) {
	empty := of(a, nil)
	for slot := 1; slot <= 60; slot++ {
		for target := 0; target <= 60; target++ {
			want := map[int][]int{}
			switch {
			case slot <= 4 || target == 0:
			case target <= 4:
				want[-1] = []int{slot}
			case (slot-5)/8 != (target-5)/8:
				want[(target-5)/8] = []int{slot}
			}
			s, e := remset.Record(a, empty, slot, target)
			if e != api.OK || !reflect.DeepEqual(cells(s), cells(of(a, want))) {
				t.Fatalf("Record of %d for %d: %v, %d; want %v", slot, target, lists(s), e, want)
			}
			again, e := remset.Record(a, s, slot, target)
			if e != api.OK || !reflect.DeepEqual(cells(again), cells(s)) {
				t.Fatalf("Record of %d for %d again: %v, %d; want %v", slot, target, lists(again), e, want)
			}
			back, e := remset.Forget(a, s, slot, target)
			if e != api.OK || len(lists(back)) != 0 {
				t.Fatalf("Forget of %d for %d: %v, %d", slot, target, lists(back), e)
			}
			none, e := remset.Forget(a, empty, slot, target)
			if e != api.OK || !reflect.DeepEqual(cells(none), cells(empty)) {
				t.Fatalf("Forget of %d for %d from empty sets: %v, %d", slot, target, none, e)
			}
		}
	}
}

// crowded returns sets of which each has slots of two cars, and cells that are gone, so that a table that is added to or dropped from twice would differ.
func crowded() api.RmSets {
	s := of(a, nil)
	for n := nursery; n < a.N; n++ {
		for _, car := range []int{(n + 1) % a.N, (n + 3) % a.N} {
			for slot := first(a, car); slot < first(a, car)+4; slot++ {
				s = plus(s, n, slot)
			}
			s = minus(s, n, first(a, car)+1)
		}
	}
	return s
}

// P8.2: slots come into the tables as slots.Add and slots.Drop do it; all other tables stay as they are, with the cells that are gone; a slot in another set stays there.
func TestOtherTables(t *testing.T) {
	s := crowded()
	for slot := 1; slot <= 60; slot++ {
		for target := 0; target <= 60; target++ {
			n := setFor(a, slot, target)
			more, e := remset.Record(a, s, slot, target)
			if e != api.OK || !reflect.DeepEqual(cells(more), cells(plus(s, n, slot))) {
				t.Fatalf("Record of %d for %d: %v, %d", slot, target, more, e)
			}
			less, e := remset.Forget(a, s, slot, target)
			if e != api.OK || !reflect.DeepEqual(cells(less), cells(minus(s, n, slot))) {
				t.Fatalf("Forget of %d for %d: %v, %d", slot, target, less, e)
			}
		}
	}
}

// P8.2: a slot that is there already stays in its cell, though one before it on its path is gone.
func TestRecordAgain(t *testing.T) {
	// With 8 cells, 13, 21 and 29 have the same home, 13 times 7 modulo 8, that is 3.
	for n, target := range map[int]int{nursery: 1, 0: 5, 6: 60} {
		s := minus(of(a, map[int][]int{n: {13, 21, 29}}), n, 13)
		for _, slot := range []int{21, 29} {
			got, e := remset.Record(a, s, slot, target)
			if e != api.OK || !slices.Equal(tableOf(&got, n).Cells, []int{0, 0, 0, gone, 21, 29, 0, 0}) {
				t.Errorf("Record of %d for %d again: %v, %d", slot, target, got, e)
			}
		}
		got, e := remset.Record(a, s, 37, target)
		if e != api.OK || !slices.Equal(tableOf(&got, n).Cells, []int{0, 0, 0, 37, 21, 29, 0, 0}) {
			t.Errorf("Record of 37 for %d: %v, %d", target, got, e)
		}
	}
}

// P8.2: a set that gets slots of all other cars, so that its table grows; it is emptied again.
func TestRecordMany(t *testing.T) {
	c := api.Config{C: 64, N: 8, S: 8, K: 1, Q: 2}
	for n := nursery; n < c.N; n++ {
		s, e := remset.New(c)
		want, _ := slots.Of(nil)
		for slot := last(c); slot > c.S; slot -= 3 {
			if carOf(c, slot) == n {
				continue
			}
			want, _, _ = slots.Add(want, slot)
			if s, e = remset.Record(c, s, slot, first(c, n)+slot%8); e != api.OK {
				t.Fatalf("Record of %d into %d: %d", slot, n, e)
			}
		}
		if got := *tableOf(&s, n); !slices.Equal(got.Cells, want.Cells) || len(lists(s)) != 1 {
			t.Errorf("the set of %d is %v; want %v", n, got, want)
		}
		for _, slot := range slotsOf(want) {
			if s, e = remset.Forget(c, s, slot, first(c, n)); e != api.OK {
				t.Fatalf("Forget of %d from %d: %d", slot, n, e)
			}
		}
		if len(lists(s)) != 0 {
			t.Errorf("the set of %d still has %v", n, lists(s))
		}
	}
}

// P8.2: a slot that is no address of the arena, from 1 on, or a target that is none from 0 on, has ErrRange, also where it would not be remembered.
func TestRecordRange(t *testing.T) {
	for _, c := range []api.Config{a, greatest} {
		s := of(c, nil)
		for _, slot := range edgeNumbers(c) {
			for _, target := range edgeNumbers(c) {
				want := api.OK
				if slot < 1 || slot > last(c) || target < 0 || target > last(c) {
					want = api.ErrRange
				}
				for name, f := range map[string]func(api.Config, api.RmSets, int, int) (api.RmSets, api.Errno){"Record": remset.Record, "Forget": remset.Forget} {
					got, e := f(c, s, slot, target)
					if e != want || e != api.OK && !reflect.DeepEqual(cells(got), zero()) {
						t.Errorf("%s of %d for %d: %v, %d; want %d", name, slot, target, got, e, want)
					}
				}
				for _, now := range []int{0, 1, last(c), last(c) + 1, -1} {
					want := want
					if now < 0 || now > last(c) {
						want = api.ErrRange
					}
					got, e := remset.Store(c, s, slot, target, now)
					back, f := remset.Store(c, s, slot, now, target)
					if e != want || f != want || want != api.OK && (!reflect.DeepEqual(cells(got), zero()) || !reflect.DeepEqual(cells(back), zero())) {
						t.Errorf("Store of %d with %d and %d: %d, %d; want %d", slot, target, now, e, f, want)
					}
				}
			}
		}
	}
}

// P8.2: Store is Forget for old, and then Record for now, for each slot with any old and now; of equal ones it changes nothing, though the slot may be missing, or be there.
func TestStore(t *testing.T) {
	for _, s := range []api.RmSets{of(a, nil), crowded()} {
		for slot := 1; slot <= 60; slot++ {
			for old := 0; old <= 60; old++ {
				for now := slot % 3; now <= 60; now += 3 {
					want := cells(s)
					if old != now {
						want = cells(plus(minus(s, setFor(a, slot, old), slot), setFor(a, slot, now), slot))
					}
					got, e := remset.Store(a, s, slot, old, now)
					if e != api.OK || !reflect.DeepEqual(cells(got), want) {
						t.Fatalf("Store of %d from %d to %d: %v, %d; want %v", slot, old, now, got, e, want)
					}
				}
				got, e := remset.Store(a, s, slot, old, old)
				if e != api.OK || !reflect.DeepEqual(cells(got), cells(s)) {
					t.Fatalf("Store of %d from %d to the same: %v, %d", slot, old, got, e)
				}
			}
		}
	}
}

// P8.2: targets in the same car are not equal ones: the slot is dropped and added, and so comes into the first cell of its path that is gone, or into a set that did not have it.
func TestStoreInOneCar(t *testing.T) {
	// With 8 cells, 13, 21 and 29 have the same home, 13 times 7 modulo 8, that is 3.
	s := of(a, map[int][]int{0: {13, 21, 29}})
	s = minus(s, 0, 13)
	if !slices.Equal(s.Cars[0].Cells, []int{0, 0, 0, gone, 21, 29, 0, 0}) {
		t.Fatalf("the table is %v", s.Cars[0])
	}
	got, e := remset.Store(a, s, 29, 5, 5)
	if e != api.OK || !slices.Equal(got.Cars[0].Cells, []int{0, 0, 0, gone, 21, 29, 0, 0}) {
		t.Errorf("Store of equal ones: %v, %d", got.Cars[0], e)
	}
	got, e = remset.Store(a, s, 29, 5, 6)
	if e != api.OK || !slices.Equal(got.Cars[0].Cells, []int{0, 0, 0, 29, 21, gone, 0, 0}) {
		t.Errorf("Store of two targets in one car: %v, %d", got.Cars[0], e)
	}
	got, e = remset.Store(a, s, 37, 5, 6)
	if e != api.OK || !slices.Equal(got.Cars[0].Cells, []int{0, 0, 0, 37, 21, 29, 0, 0}) {
		t.Errorf("Store of a slot that was missing: %v, %d", got.Cars[0], e)
	}
}

// P8.3: Into and Young have the slots of just one set, ascending; there is no set of a car below 0, or from the number of cars on.
func TestIntoAndYoung(t *testing.T) {
	l := map[int][]int{-1: {5, 13, 60}, 0: {60, 13, 20, 37}, 3: {5}, 6: {5, 6, 7, 8, 9, 10, 11, 12, 52, 13}}
	s := of(a, l)
	for n := 0; n < a.N; n++ {
		want := slices.Clone(l[n])
		slices.Sort(want)
		if got, e := remset.Into(s, n); !slices.Equal(got, want) || e != api.OK {
			t.Errorf("Into of %d: %v, %d; want %v", n, got, e, want)
		}
	}
	if got, e := remset.Young(s); !slices.Equal(got, []int{5, 13, 60}) || e != api.OK {
		t.Errorf("Young: %v, %d", got, e)
	}
	for _, n := range edgeNumbers(a) {
		want := api.ErrRange
		if n >= 0 && n < a.N {
			want = api.OK
		}
		if got, e := remset.Into(s, n); e != want || e != api.OK && len(got) != 0 {
			t.Errorf("Into of %d: %v, %d", n, got, e)
		}
		if got, e := remset.Into(api.RmSets{}, n); e != api.ErrRange || len(got) != 0 {
			t.Errorf("Into of %d of no sets: %v, %d", n, got, e)
		}
	}
}

// P8.3: Into and Young look at one table alone: they have its error, whatever the others are, and no error though it could be of no heap.
func TestIntoAndYoungOfOneTable(t *testing.T) {
	good := api.SlSet{Cells: []int{0, 0, 0, 0, 0, 0, 2, 1}}
	for e, l := range badTables() {
		for i, bad := range l {
			s := api.RmSets{Cars: []api.SlSet{bad, good, bad}, Nursery: good}
			into, e1 := remset.Into(s, 0)
			other, e2 := remset.Into(s, 1)
			young, e3 := remset.Young(s)
			if len(into) != 0 || e1 != e || !slices.Equal(other, []int{1, 2}) || e2 != api.OK || !slices.Equal(young, []int{1, 2}) || e3 != api.OK {
				t.Errorf("Into and Young with table %d of the error %d: %v, %d; %v, %d; %v, %d", i, e, into, e1, other, e2, young, e3)
			}
			s = api.RmSets{Cars: []api.SlSet{good}, Nursery: bad}
			into, e1 = remset.Into(s, 0)
			young, e3 = remset.Young(s)
			if !slices.Equal(into, []int{1, 2}) || e1 != api.OK || len(young) != 0 || e3 != e {
				t.Errorf("Into and Young with the nursery's table %d of the error %d: %v, %d; %v, %d", i, e, into, e1, young, e3)
			}
		}
	}
}

// P8.3: From has the slots of the car in all sets, that of the nursery among them, each once; its own set has none of them.
func TestFrom(t *testing.T) {
	s := of(a, map[int][]int{-1: {12, 20, 5}, 0: {13, 20, 37}, 1: {12, 60, 8}, 3: {5, 21, 20}, 6: {8, 52, 12}})
	for n, want := range map[int][]int{0: {5, 8, 12}, 1: {13, 20}, 2: {21}, 3: nil, 4: {37}, 5: {52}, 6: {60}} {
		if got, e := remset.From(a, s, n); !slices.Equal(got, want) || e != api.OK {
			t.Errorf("From of %d: %v, %d; want %v", n, got, e, want)
		}
	}
	for n := range a.N {
		got, e := remset.From(a, of(a, nil), n)
		if len(got) != 0 || e != api.OK {
			t.Errorf("From of %d of empty sets: %v, %d", n, got, e)
		}
	}
}

// P8.3, P8.4: the nursery, and what is beyond the cars, are no car to From and Purge.
func TestNoCar(t *testing.T) {
	for _, c := range []api.Config{a, greatest} {
		s := of(c, map[int][]int{-1: {last(c)}, 0: {last(c)}})
		for _, n := range append(edgeNumbers(c), -1, c.N) {
			want := api.ErrRange
			if n >= 0 && n < c.N {
				want = api.OK
			}
			if l, e := remset.From(c, s, n); e != want || e != api.OK && len(l) != 0 {
				t.Errorf("From of %d: %v, %d", n, l, e)
			}
			if got, k, e := remset.Purge(c, s, n); e != want || e != api.OK && (k != 0 || !reflect.DeepEqual(cells(got), zero())) {
				t.Errorf("Purge of %d: %v, %d, %d", n, got, k, e)
			}
		}
	}
}

// P8.4: Purge drops the car's slots from all sets, as slots.Purge does it, and makes its own set a new one; a slot that was in two sets is gone twice.
func TestPurge(t *testing.T) {
	s := of(a, map[int][]int{-1: {12, 20, 5}, 0: {13, 20, 37, 45, 53, 21, 29}, 1: {12, 60, 8}, 3: {5, 21, 20}, 6: {8, 52, 12}})
	for n, x := range map[int]struct {
		gone int
		left map[int][]int
	}{
		0: {7 + 7, map[int][]int{-1: {20}, 1: {60}, 3: {20, 21}, 6: {52}}},
		1: {3 + 4, map[int][]int{-1: {5, 12}, 0: {21, 29, 37, 45, 53}, 3: {5, 21}, 6: {8, 12, 52}}},
		2: {2, map[int][]int{-1: {5, 12, 20}, 0: {13, 20, 29, 37, 45, 53}, 1: {8, 12, 60}, 3: {5, 20}, 6: {8, 12, 52}}},
		6: {3 + 2, map[int][]int{-1: {5, 12, 20}, 0: {13, 20, 21, 29, 37, 45}, 1: {8, 12}, 3: {5, 20, 21}}},
	} {
		got, k, e := remset.Purge(a, s, n)
		if k != x.gone || e != api.OK || !reflect.DeepEqual(lists(got), x.left) {
			t.Errorf("Purge of %d: %v, %d, %d; want %v", n, lists(got), k, e, x)
		}
		if !slices.Equal(got.Cars[n].Cells, make([]int, 8)) {
			t.Errorf("Purge of %d: its set is %v", n, got.Cars[n])
		}
	}
	if got, _, _ := remset.Purge(a, s, 1); countOf(got.Cars[0].Cells, gone) != 2 || len(got.Cars[0].Cells) != 16 {
		t.Errorf("Purge of 1: the set of 0 is %v", got.Cars[0])
	}
	s = crowded()
	for n := range a.N {
		want, gone := purged(a, s, n)
		got, k, e := remset.Purge(a, s, n)
		if k != gone || e != api.OK || !reflect.DeepEqual(cells(got), cells(want)) {
			t.Errorf("Purge of %d: %v, %d, %d; want %v", n, got, k, e, want)
		}
	}
	empty := of(a, nil)
	empty.Cars[2] = api.SlSet{Cells: []int{gone, 0, 0, 0, 0, 0, 0, 0}}
	if got, k, e := remset.Purge(a, empty, 2); k != 0 || e != api.OK || !slices.Equal(got.Cars[2].Cells, make([]int, 8)) {
		t.Errorf("Purge of a car whose set is empty: %v, %d, %d", got, k, e)
	}
}

func countOf(cells []int, v int) int {
	n := 0
	for _, c := range cells {
		if c == v {
			n++
		}
	}
	return n
}

// P8.4: Count adds up all sets, that of the nursery among them; it takes any number of sets.
func TestCount(t *testing.T) {
	good := api.SlSet{Cells: []int{gone, 0, 0, 0, 0, 0, 2, 1}}
	for n := range 30 {
		s := api.RmSets{Cars: slices.Repeat([]api.SlSet{good}, n), Nursery: slots.New()}
		if k, e := remset.Count(s); k != 2*n || e != api.OK {
			t.Errorf("Count of %d sets: %d, %d", n, k, e)
		}
		s.Nursery = good
		if k, e := remset.Count(s); k != 2*n+2 || e != api.OK {
			t.Errorf("Count of %d sets, and of the nursery's: %d, %d", n, k, e)
		}
	}
}

// P8.4: Count has the error of the first set that has one; the nursery's is the last one.
func TestCountErrors(t *testing.T) {
	for e, l := range badTables() {
		for f, m := range badTables() {
			for i, bad := range l {
				other, good := m[i%len(m)], slots.New()
				for k, x := range []struct {
					s    api.RmSets
					want api.Errno
				}{
					{api.RmSets{Nursery: bad}, e},
					{api.RmSets{Cars: []api.SlSet{good, bad}, Nursery: good}, e},
					{api.RmSets{Cars: []api.SlSet{bad, other}, Nursery: good}, e},
					{api.RmSets{Cars: []api.SlSet{good, bad}, Nursery: other}, e},
					{api.RmSets{Cars: []api.SlSet{good, other, good}, Nursery: bad}, f},
				} {
					if n, got := remset.Count(x.s); n != 0 || got != x.want {
						t.Errorf("%d: Count with tables of the errors %d and %d: %d, %d; want %d", k, e, f, n, got, x.want)
					}
				}
			}
		}
	}
}

// P8.4: sets are the same whatever their cells are, and differ if a slot is missing, or in another set, or if there is one set more.
func TestSame(t *testing.T) {
	l := func() map[int][]int { return map[int][]int{-1: {5, 13}, 0: {13, 21}, 6: {5, 13}} }
	s := of(a, l())
	other := of(a, map[int][]int{-1: {13, 5}, 0: {21, 13}, 6: {29, 5, 13}})
	other = minus(other, 6, 29)
	if reflect.DeepEqual(cells(s), cells(other)) {
		t.Fatalf("the cells are the same: %v", s)
	}
	if !remset.Same(s, other) || !remset.Same(other, s) || !remset.Same(s, s) || !remset.Same(of(a, nil), of(a, nil)) {
		t.Errorf("Same of %v and %v", s, other)
	}
	grown := copyOf(s)
	grown.Cars[3] = api.SlSet{Cells: make([]int, 64)}
	if !remset.Same(s, grown) {
		t.Errorf("Same of a table with more cells")
	}
	for i, change := range []func(m map[int][]int){
		func(m map[int][]int) { m[-1] = []int{5} },
		func(m map[int][]int) { m[6] = []int{5, 13, 14} },
		func(m map[int][]int) { m[0] = []int{13, 22} },
		func(m map[int][]int) { m[0], m[1] = nil, m[0] },
		func(m map[int][]int) { m[-1], m[5] = nil, m[-1] },
		func(m map[int][]int) { m[0], m[6] = m[6], m[0] },
		func(m map[int][]int) { clear(m) },
	} {
		m := l()
		change(m)
		if d := of(a, m); remset.Same(s, d) || remset.Same(d, s) {
			t.Errorf("%d: Same of %v and %v", i, lists(s), lists(d))
		}
	}
	more := copyOf(s)
	more.Cars = append(more.Cars, slots.New())
	if remset.Same(s, more) || remset.Same(more, s) || !remset.Same(more, more) {
		t.Errorf("Same with one set more")
	}
}

// P8.4: sets with an error of slots.Check are not the same as any, nor as themselves; those that could be of no heap may be.
func TestSameOfBadOnes(t *testing.T) {
	for e, l := range badTables() {
		for i, bad := range l {
			for n := nursery; n < a.N; n++ {
				s := of(a, nil)
				*tableOf(&s, n) = bad
				if remset.Same(s, s) || remset.Same(s, of(a, nil)) || remset.Same(of(a, nil), s) {
					t.Errorf("Same with table %d of the error %d as the set of %d", i, e, n)
				}
			}
		}
	}
	if remset.Same(api.RmSets{}, api.RmSets{}) {
		t.Errorf("Same of sets that are zero")
	}
	s := api.RmSets{Nursery: slots.New()}
	if !remset.Same(s, api.RmSets{Cars: []api.SlSet{}, Nursery: api.SlSet{Cells: make([]int, 16)}}) {
		t.Errorf("Same of the nursery's set alone")
	}
	strange := api.RmSets{Cars: []api.SlSet{{Cells: []int{0, 0, 0, 0, 0, 0, 2, 1}}}, Nursery: slots.New()}
	if !remset.Same(strange, strange) || remset.Same(strange, s) {
		t.Errorf("Same of slots in the nursery")
	}
}

// The chapter's examples.
func TestExamples(t *testing.T) {
	empty, e := remset.New(a)
	if e != api.OK {
		t.Fatalf("New: %d", e)
	}
	s, e := remset.Record(a, empty, 6, 13)
	one, e1 := remset.Into(s, 1)
	zeroth, e2 := remset.Into(s, 0)
	if e != api.OK || e1 != api.OK || e2 != api.OK || !slices.Equal(one, []int{6}) || len(zeroth) != 0 {
		t.Errorf("Record of 6 for 13: %v, %v; %d, %d, %d", one, zeroth, e, e1, e2)
	}
	for _, x := range [][2]int{{6, 7}, {2, 13}, {6, 0}} {
		s, e := remset.Record(a, empty, x[0], x[1])
		if n, f := remset.Count(s); n != 0 || e != api.OK || f != api.OK {
			t.Errorf("Record of %v: %v, %d", x, s, e)
		}
	}
	young, e := remset.Record(a, empty, 6, 1)
	if l, f := remset.Young(young); !slices.Equal(l, []int{6}) || e != api.OK || f != api.OK {
		t.Errorf("Record of 6 for 1: %v, %d, %d", l, e, f)
	}
	stored, e := remset.Store(a, s, 6, 13, 21)
	one, e1 = remset.Into(stored, 1)
	two, e2 := remset.Into(stored, 2)
	if e != api.OK || e1 != api.OK || e2 != api.OK || len(one) != 0 || !slices.Equal(two, []int{6}) {
		t.Errorf("Store of 6: %v, %v; %d, %d, %d", one, two, e, e1, e2)
	}
	both, e := remset.Record(a, s, 14, 5)
	left, n, f := remset.Purge(a, both, 0)
	if count, _ := remset.Count(left); n != 2 || e != api.OK || f != api.OK || count != 0 {
		t.Errorf("Purge of 0: %v, %d, %d, %d", lists(left), n, e, f)
	}
	_, e1 = remset.Record(a, empty, 0, 13)
	_, e2 = remset.Record(a, empty, 6, 61)
	if e1 != api.ErrRange || e2 != api.ErrRange {
		t.Errorf("Record beyond the arena: %d, %d", e1, e2)
	}
}
