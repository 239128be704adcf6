package remset_test

import (
	"reflect"
	"slices"
	"testing"

	"shunter/api"
	"shunter/remset"
)

// P8.1 to P8.4: whatever the arguments are, all results are those of the chapter, read literally.
func TestAnyCalls(t *testing.T) {
	r := dice()
	found := map[string]map[any]int{}
	for _, name := range names() {
		found[name] = map[any]int{}
	}
	for range 20000 {
		c := anyCall(r)
		for range r.Intn(3) {
			spoil(r, &c)
		}
		got, want := results(c), expected(c)
		for i, name := range names() {
			if !reflect.DeepEqual(got[i], want[i]) {
				t.Fatalf("%s of %+v: %v; want %v", name, c, got[i], want[i])
			}
			found[name][got[i][len(got[i])-1]]++
			if name == "Same" {
				found[name][got[i][0]]++
			}
		}
	}
	for _, name := range []string{"Check", "Record", "Forget", "Store", "Into", "Young", "From", "Purge", "Count"} {
		for _, e := range []api.Errno{api.OK, api.ErrForm, api.ErrRange, api.ErrTwice, api.ErrFull, api.ErrLong} {
			if found[name][e] < 20 {
				t.Errorf("%s had %d in %d calls only", name, e, found[name][e])
			}
		}
	}
	if found["New"][api.OK] < 1000 || found["New"][api.ErrRange] < 1000 || found["Same"][true] < 1000 || found["Same"][false] < 1000 {
		t.Errorf("New: %v; Same: %v", found["New"], found["Same"])
	}
}

// P8.5: after any number of Stores, each of which says as old what the slot had last, the sets have exactly those slots that are remembered for what they have now.
func TestBarrier(t *testing.T) {
	r := dice()
	for round := range 40 {
		c := anyConfig(r)
		s, e := remset.New(c)
		held := map[int]int{}
		for range 300 {
			slot := 1 + r.Intn(last(c))
			if round%2 == 0 {
				// Few slots, which are stored into again and again.
				slot = 1 + r.Intn(10)*last(c)/10
			}
			now := 0
			switch r.Intn(4) {
			case 0:
				now = r.Intn(last(c) + 1)
			case 1:
				now = r.Intn(c.S + 1)
			case 2:
				now = c.S + 1 + r.Intn(2*c.C)
			}
			if s, e = remset.Store(c, s, slot, held[slot], now); e != api.OK {
				t.Fatalf("Store of %d from %d to %d: %d", slot, held[slot], now, e)
			}
			held[slot] = now
		}
		if want := remembered(c, held); !reflect.DeepEqual(lists(s), want) {
			t.Fatalf("%v: %v; want %v", c, lists(s), want)
		}
		if car, e := remset.Check(c, s); car != 0 || e != api.OK {
			t.Fatalf("Check: %d, %d", car, e)
		}
	}
}

// remembered returns for each set the slots that belong into it, if slots hold this.
func remembered(c api.Config, held map[int]int) map[int][]int {
	m := map[int][]int{}
	for slot := 1; slot <= last(c); slot++ {
		if n := setFor(c, slot, held[slot]); n != none {
			m[n] = append(m[n], slot)
		}
	}
	return m
}

// setsOf returns in how many sets a slot is.
func setsOf(s api.RmSets, slot int) int {
	n := 0
	for _, l := range lists(s) {
		if slices.Contains(l, slot) {
			n++
		}
	}
	return n
}

// P8.6: a slot is in one set at most, if this was so before: Store with what it had, Forget, Purge, and Record of a slot that is in no set keep it so.
func TestOneSetAtMost(t *testing.T) {
	r := dice()
	for range 20 {
		c := anyConfig(r)
		s, e := remset.New(c)
		held := map[int]int{}
		for range 150 {
			slot, now := anySlot(r, c), r.Intn(last(c)+1)
			switch r.Intn(8) {
			case 0:
				s, e = remset.Forget(c, s, slot, held[slot])
				delete(held, slot)
			case 1:
				if setsOf(s, slot) == 0 {
					s, e = remset.Record(c, s, slot, now)
					held[slot] = now
				}
			case 2:
				if r.Intn(10) == 0 {
					car := r.Intn(c.N)
					s, _, e = remset.Purge(c, s, car)
					for k, v := range held {
						if carOf(c, k) == car || v != 0 && carOf(c, v) == car {
							delete(held, k)
						}
					}
				}
			default:
				s, e = remset.Store(c, s, slot, held[slot], now)
				held[slot] = now
			}
			if e != api.OK {
				t.Fatalf("an error: %d", e)
			}
		}
		for slot := 1; slot <= last(c); slot++ {
			if n := setsOf(s, slot); n > 1 {
				t.Fatalf("%d is in %d sets", slot, n)
			}
		}
		if want := remembered(c, held); !reflect.DeepEqual(lists(s), want) {
			t.Fatalf("%v: %v; want %v", c, lists(s), want)
		}
	}
}

// P8.6: Forget after Record of a new slot has the same slots as before.
func TestForgetAfterRecord(t *testing.T) {
	r := dice()
	for range 3000 {
		c := anyCall(r)
		if n := setFor(c.c, c.slot, c.target); n != none && slices.Contains(tableOf(&c.s, n).Cells, c.slot) {
			continue
		}
		s, e := remset.Record(c.c, c.s, c.slot, c.target)
		if e != api.OK {
			t.Fatalf("Record: %d", e)
		}
		if s, e = remset.Forget(c.c, s, c.slot, c.target); e != api.OK || !reflect.DeepEqual(lists(s), lists(c.s)) || !remset.Same(s, c.s) {
			t.Fatalf("Forget after Record of %d for %d: %v, %d; want %v", c.slot, c.target, lists(s), e, lists(c.s))
		}
	}
}

// P8.6: Purge of all cars leaves nothing, and all slots are gone; slots from other cars into other cars stay.
func TestPurgeOfAll(t *testing.T) {
	r := dice()
	for range 500 {
		c := anyCall(r)
		s, before := c.s, lists(c.s)
		all, _ := remset.Count(s)
		for i, car := range r.Perm(c.c.N) {
			purged, n, e := remset.Purge(c.c, s, car)
			if e != api.OK {
				t.Fatalf("Purge of %d: %d", car, e)
			}
			if i == 0 {
				if want := without(c.c, before, car); !reflect.DeepEqual(lists(purged), want) {
					t.Fatalf("Purge of %d from %v: %v; want %v", car, before, lists(purged), want)
				}
			}
			if l, e := remset.From(c.c, purged, car); len(l) != 0 || e != api.OK {
				t.Fatalf("From of %d after Purge: %v, %d", car, l, e)
			}
			s, all = purged, all-n
		}
		if n, e := remset.Count(s); n != 0 || all != 0 || e != api.OK {
			t.Fatalf("Purge of all from %v: %v, %d, %d", before, lists(s), all, e)
		}
	}
}

// without returns the slots from other cars into other cars, or into the nursery.
func without(c api.Config, l map[int][]int, car int) map[int][]int {
	m := map[int][]int{}
	for n, slots := range l {
		for _, slot := range slots {
			if n != car && carOf(c, slot) != car {
				m[n] = append(m[n], slot)
			}
		}
	}
	return m
}

// P8.7: sets that are returned are without an error of Check.
func TestReturnedSets(t *testing.T) {
	r := dice()
	for range 2000 {
		c := anyCall(r)
		empty, e0 := remset.New(c.c)
		recorded, e1 := remset.Record(c.c, c.s, c.slot, c.target)
		forgotten, e2 := remset.Forget(c.c, c.s, c.slot, c.target)
		stored, e3 := remset.Store(c.c, c.s, c.slot, c.old, c.now)
		purged, _, e4 := remset.Purge(c.c, c.s, c.car)
		for i, e := range []api.Errno{e0, e1, e2, e3, e4} {
			s := []api.RmSets{empty, recorded, forgotten, stored, purged}[i]
			car, f := remset.Check(c.c, s)
			wantCar, want := checkOf(c.c, s)
			if e != api.OK || car != 0 || f != api.OK || wantCar != 0 || want != api.OK {
				t.Fatalf("%d of %+v: %v, %d; Check: %d, %d; %d, %d", i, c, s, e, car, f, wantCar, want)
			}
		}
	}
}
