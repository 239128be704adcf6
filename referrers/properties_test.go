package referrers_test

import (
	"reflect"
	"slices"
	"testing"

	"shunter/api"
	"shunter/referrers"
	"shunter/slots"
)

// P9.1 to P9.4: whatever the arguments are, all results are those of the chapter, read literally.
func TestAnyCalls(t *testing.T) {
	r := dice()
	found := map[string]map[any]int{}
	for _, name := range names() {
		found[name] = map[any]int{}
	}
	for range 40000 {
		c := anyCall(r)
		for range r.Intn(3) {
			spoil(r, &c)
		}
		got, want := results(c), expected(c)
		for i, name := range names() {
			if !reflect.DeepEqual(got[i], want[i]) {
				t.Fatalf("%s of %+v: %v; want %v", name, c, got[i], want[i])
			}
			found[name][got[i][len(got[i])-1]]++
		}
	}
	ofCounts := []api.Errno{api.OK, api.ErrLong, api.ErrRange, api.ErrForm}
	ofArena := append(ofCounts, api.ErrTwice, api.ErrFull)
	for name, errors := range map[string][]api.Errno{
		"Check": ofCounts, "Counts": ofArena, "Of": ofArena, "Holders": ofArena, "Popular": ofCounts, "Most": append(ofCounts, api.ErrNone), "Merge": ofCounts, "Within": ofCounts,
	} {
		for _, e := range errors {
			if found[name][e] < 100 {
				t.Errorf("%s had %d in %d calls only", name, e, found[name][e])
			}
		}
	}
}

// P9.5: the sum of all numbers of Counts is how many slots of the set do not have 0; each target has the number that Of says, and as many Holders, and no other address has any.
func TestTheorem(t *testing.T) {
	r := dice()
	for range 300 {
		c := anyCall(r)
		s := api.SlSet{Cells: c.cells}
		l, e := referrers.Counts(c.w, s)
		if at, f := referrers.Check(l); e != api.OK || at != 0 || f != api.OK {
			t.Fatalf("Counts: %v, %d; Check: %d, %d", l, e, at, f)
		}
		n := 0
		for _, slot := range addressesOf(c.cells) {
			if c.w[slot] != 0 {
				n++
			}
		}
		sum, numbers := 0, numbersOf(l)
		for _, x := range l {
			sum += x.N
		}
		if sum != n {
			t.Fatalf("the sum of %v is %d; want %d", l, sum, n)
		}
		for a := 1; a <= maxAddress; a += 1 + r.Intn(5) {
			of, e := referrers.Of(c.w, s, a)
			holders, f := referrers.Holders(c.w, s, a)
			if of != numbers[a] || len(holders) != of || !slices.IsSorted(holders) || e != api.OK || f != api.OK {
				t.Fatalf("%v: Of %d: %d, %d; Holders: %v, %d", l, a, of, e, holders, f)
			}
			for _, slot := range holders {
				if has, _ := slots.Has(s, slot); !has || c.w[slot] != uint64(a) {
					t.Fatalf("%d does not refer to %d", slot, a)
				}
			}
		}
	}
}

// P9.6: counts of two sets without a common slot, merged, are those of both together.
func TestApart(t *testing.T) {
	r := dice()
	for range 2000 {
		c := anyCall(r)
		all := addressesOf(c.cells)
		r.Shuffle(len(all), func(i, j int) { all[i], all[j] = all[j], all[i] })
		n := r.Intn(len(all) + 1)
		some, others := api.SlSet{Cells: cellsOf(all[:n]...)}, api.SlSet{Cells: cellsOf(all[n:]...)}
		l, e1 := referrers.Counts(c.w, some)
		m, e2 := referrers.Counts(c.w, others)
		merged, e3 := referrers.Merge(l, m)
		together, e4 := slots.Join(some, others)
		both, e5 := referrers.Counts(c.w, together)
		if e1 != api.OK || e2 != api.OK || e3 != api.OK || e4 != api.OK || e5 != api.OK || !slices.Equal(merged, both) {
			t.Fatalf("%v and %v merged: %v; together: %v; %d, %d, %d, %d, %d", l, m, merged, both, e1, e2, e3, e4, e5)
		}
	}
}

// P9.6: a store into one slot changes the counts of two targets at most, by one each: that of what it had, and that of what it gets.
func TestStore(t *testing.T) {
	r := dice()
	for range 2000 {
		c := anyCall(r)
		s := api.SlSet{Cells: c.cells}
		before, e := referrers.Counts(c.w, s)
		slot, now := 1+r.Intn(len(c.w)-1), r.Intn(maxAddress+1)
		if r.Intn(3) > 0 {
			now = int(one(r, c.w))
		}
		want := numbersOf(before)
		if slices.Contains(c.cells, slot) {
			want[c.w[slot]]--
			want[now]++
			want[0] = 0
		}
		c.w[slot] = uint64(now)
		after, f := referrers.Counts(c.w, s)
		if e != api.OK || f != api.OK || numbersOf(after) != want {
			t.Fatalf("%v, then %d got %d: %v", before, slot, now, after)
		}
	}
}

// P9.7: Popular of a greater q is part of that of a lesser one; Most is popular for its own number, and nothing for one more.
func TestPopularAndMost(t *testing.T) {
	r := dice()
	for range 1000 {
		l := anyCounts(r)
		var last []int
		for _, c := range l {
			last = append(last, c.Target)
		}
		for _, q := range []int{1, 2, 3, 4, 5, 6, 799, 800, 801, 1598, 1599, 1600} {
			targets, e := referrers.Popular(l, q)
			if e != api.OK || !slices.IsSorted(targets) || slices.ContainsFunc(targets, func(a int) bool { return !slices.Contains(last, a) }) {
				t.Fatalf("Popular of %v, %d: %v, %d; of a lesser one %v", l, q, targets, e, last)
			}
			last = targets
		}
		most, e := referrers.Most(l)
		if len(l) == 0 {
			continue
		}
		own, f := referrers.Popular(l, most.N)
		if e != api.OK || f != api.OK || len(own) == 0 || own[0] != most.Target || !slices.Contains(l, most) {
			t.Fatalf("Most of %v: %v, %d; Popular: %v, %d", l, most, e, own, f)
		}
		if more, _ := referrers.Popular(l, most.N+1); len(more) != 0 {
			t.Fatalf("Popular of %v, %d: %v", l, most.N+1, more)
		}
	}
}

// P9.4: counts within two stretches that touch, merged, are those within both.
func TestStretches(t *testing.T) {
	r := dice()
	for range 1000 {
		l := anyCounts(r)
		cut := r.Intn(40)
		low, e1 := referrers.Within(l, 0, cut)
		high, e2 := referrers.Within(l, cut, maxAddress+1)
		both, e3 := referrers.Merge(low, high)
		if e1 != api.OK || e2 != api.OK || e3 != api.OK || !slices.Equal(both, l) || !slices.Equal(slices.Concat(low, high), l) {
			t.Fatalf("%v at %d: %v, %v, %v", l, cut, low, high, both)
		}
	}
}
