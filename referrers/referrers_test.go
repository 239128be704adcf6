package referrers_test

import (
	"slices"
	"testing"

	"shunter/api"
	"shunter/referrers"
	"shunter/slots"
)

// P9.1: how many counts there may be; what they are does not matter before this.
func TestCheckLong(t *testing.T) {
	for _, n := range []int{0, 1, 2, 1599, 1600, 1601, 1602, 5000} {
		at, want := 0, api.OK
		if n > 1600 {
			at, want = -1, api.ErrLong
		}
		l := full(min(n, 1600), 1600)
		l = append(l, make([]api.RfCount, n-len(l))...)
		if i, e := referrers.Check(l); i != at || e != want {
			t.Errorf("%d counts: %d, %d", n, i, e)
		}
	}
	if at, e := referrers.Check(make([]api.RfCount, 1600)); at != 0 || e != api.ErrRange {
		t.Errorf("1600 counts that are zero: %d, %d", at, e)
	}
}

// P9.1: each target, and each number, has to be from 1 to 1600, wherever it is.
func TestCheckRange(t *testing.T) {
	for _, n := range []int{1, 2, 3, 7} {
		for i := range n {
			for _, v := range edgeNumbers() {
				l := full(n, 5)
				l[i].N = v
				at, want := 0, api.OK
				if v < 1 || v > 1600 {
					at, want = i, api.ErrRange
				}
				if got, e := referrers.Check(l); got != at || e != want {
					t.Errorf("the number %d of %d is %d: %d, %d", i, n, v, got, e)
				}
			}
			for _, v := range outside() {
				l := full(n, 5)
				l[i].Target = v
				if got, e := referrers.Check(l); got != i || e != api.ErrRange {
					t.Errorf("the target %d of %d is %d: %d, %d", i, n, v, got, e)
				}
			}
		}
	}
	for _, target := range []int{1, 2, 1599, 1600} {
		if at, e := referrers.Check(counts(target, 1)); at != 0 || e != api.OK {
			t.Errorf("the target %d: %d, %d", target, at, e)
		}
	}
}

// P9.1: targets ascend, and none is there twice; of several errors the first count with one is told, and of one count first that a number is not as stated.
func TestCheckOrder(t *testing.T) {
	for i, c := range []struct {
		l    []api.RfCount
		at   int
		want api.Errno
	}{
		{counts(1, 1, 2, 1), 0, api.OK},
		{counts(1, 1600, 1600, 1), 0, api.OK},
		{counts(2, 1, 1, 1), 1, api.ErrForm},
		{counts(2, 1, 2, 1), 1, api.ErrForm},
		{counts(2, 1, 2, 3), 1, api.ErrForm},
		{counts(1600, 1, 1600, 1), 1, api.ErrForm},
		{counts(1, 1, 5, 1, 3, 1), 2, api.ErrForm},
		{counts(1, 1, 5, 1, 3, 1, 4, 1), 2, api.ErrForm},
		{counts(1, 1, 3, 1, 2, 1, 0, 1), 2, api.ErrForm},
		{counts(1, 1, 0, 1, 1, 1), 1, api.ErrRange},
		{counts(2, 1, 0, 1), 1, api.ErrRange},
		{counts(2, 1, 1, 0), 1, api.ErrRange},
		{counts(2, 1, 2, 1601), 1, api.ErrRange},
		{counts(2, 0, 1, 1), 0, api.ErrRange},
		{counts(9, 1, 8, 1, 7, 1), 1, api.ErrForm},
		{counts(1, 1, 2, 1, 3, 0, 3, 1), 2, api.ErrRange},
	} {
		if at, e := referrers.Check(c.l); at != c.at || e != c.want {
			t.Errorf("%d: Check of %v: %d, %d", i, c.l, at, e)
		}
	}
}

// arenaCase is an arena, slots of a set, and the counts that are expected.
type arenaCase struct {
	w    []uint64
	s    []int
	want []api.RfCount
}

// arenaCases are sets whose slots all have what they may have.
func arenaCases() []arenaCase {
	w := words(20, map[int]uint64{3: 9, 4: 9, 5: 7})
	all := make([]uint64, 1601)
	for i := range all {
		all[i] = 1600
	}
	twos := make([]uint64, 1601)
	for i := range twos {
		twos[i] = uint64((i + 1) / 2)
	}
	return []arenaCase{
		{w, []int{3, 4, 5, 6}, counts(7, 1, 9, 2)},
		{w, []int{6, 5, 4, 3}, counts(7, 1, 9, 2)},
		{w, []int{3}, counts(9, 1)},
		{w, []int{6, 7, 19}, nil},
		{w, nil, nil},
		{nil, nil, nil},
		{[]uint64{5}, nil, nil},
		{[]uint64{1 << 63, 2}, []int{1}, counts(2, 1)},
		{[]uint64{0, 1, 2, 3}, []int{1, 2, 3}, counts(1, 1, 2, 1, 3, 1)},
		{[]uint64{0, 3, 2, 1}, []int{1, 2, 3}, counts(1, 1, 2, 1, 3, 1)},
		{[]uint64{0, 1600, 0, 1, 1600}, []int{1, 2, 3, 4}, counts(1, 1, 1600, 2)},
		{words(20, map[int]uint64{3: 9, 4: 1601, 5: 1 << 63}), []int{3, 6}, counts(9, 1)},
		{words(1601, map[int]uint64{1600: 1600}), []int{1600}, counts(1600, 1)},
		{words(1601, map[int]uint64{1: 1, 1600: 1}), []int{1600, 1}, counts(1, 2)},
		{all, upTo(1600), counts(1600, 1600)},
		{twos, upTo(1600), full(800, 2)},
		{make([]uint64, 1601), upTo(1600), nil},
	}
}

func upTo(n int) []int {
	l := make([]int, n)
	for i := range l {
		l[i] = i + 1
	}
	return l
}

// P9.2: Counts returns the targets to which slots of the set refer, and no others: what words have that are not in the set does not matter.
func TestCounts(t *testing.T) {
	for i, c := range arenaCases() {
		l, e := referrers.Counts(c.w, api.SlSet{Cells: cellsOf(c.s...)})
		if !slices.Equal(l, c.want) || e != api.OK {
			t.Errorf("%d: Counts of %v: %v, %d; want %v", i, c.s, l, e, c.want)
		}
	}
}

// P9.2: Of and Holders say how many slots refer to an address, and which; none refers to an address that no slot has.
func TestOfAndHolders(t *testing.T) {
	for i, c := range arenaCases() {
		s := api.SlSet{Cells: cellsOf(c.s...)}
		for a := 1; a <= maxAddress; a++ {
			var want []int
			for slot := range c.w {
				if slices.Contains(c.s, slot) && c.w[slot] == uint64(a) {
					want = append(want, slot)
				}
			}
			n, e := referrers.Of(c.w, s, a)
			l, f := referrers.Holders(c.w, s, a)
			if n != len(want) || e != api.OK || !slices.Equal(l, want) || f != api.OK {
				t.Fatalf("%d: Of %d: %d, %d; Holders: %v, %d; want %v", i, a, n, e, l, f, want)
			}
		}
	}
}

// P9.2: slots that were dropped are not counted.
func TestDropped(t *testing.T) {
	w := words(20, map[int]uint64{1: 9, 9: 9, 17: 9})
	s := api.SlSet{Cells: cellsOf(1, 9, 17)}
	for _, slot := range []int{1, 17} {
		s, _, _ = slots.Drop(s, slot)
	}
	l, e := referrers.Counts(w, s)
	n, f := referrers.Of(w, s, 9)
	h, g := referrers.Holders(w, s, 9)
	if !slices.Equal(l, counts(9, 1)) || n != 1 || !slices.Equal(h, []int{9}) || e != api.OK || f != api.OK || g != api.OK {
		t.Errorf("Counts %v, %d; Of %d, %d; Holders %v, %d", l, e, n, f, h, g)
	}
}

// arenaErrors calls the three functions with an arena, and fails unless all of them have this error and nothing else; with OK, the two with an address.
func arenaErrors(t *testing.T, w []uint64, cells []int, a int, counts, of api.Errno) {
	t.Helper()
	s := api.SlSet{Cells: cells}
	l, e := referrers.Counts(w, s)
	n, f := referrers.Of(w, s, a)
	h, g := referrers.Holders(w, s, a)
	if e != counts || counts != api.OK && len(l) != 0 {
		t.Errorf("%d words, %v, %d: Counts %v, %d; want %d", len(w), cells, a, l, e, counts)
	}
	if f != of || g != of || of != api.OK && (n != 0 || len(h) != 0) {
		t.Errorf("%d words, %v, %d: Of %d, %d; Holders %v, %d; want %d", len(w), cells, a, n, f, h, g, of)
	}
}

// P9.2: an arena has at most 1601 words; this comes before errors of the set.
func TestArenaLong(t *testing.T) {
	for _, n := range []int{1602, 1603, 5000} {
		arenaErrors(t, make([]uint64, n), cellsOf(3), 9, api.ErrLong, api.ErrLong)
		arenaErrors(t, make([]uint64, n), cellsOf(), 0, api.ErrLong, api.ErrLong)
		for _, tables := range badTables() {
			for _, cells := range tables {
				arenaErrors(t, make([]uint64, n), cells, 9, api.ErrLong, api.ErrLong)
			}
		}
	}
	arenaErrors(t, make([]uint64, 1601), cellsOf(3), 9, api.OK, api.OK)
	arenaErrors(t, nil, cellsOf(), 9, api.OK, api.OK)
}

// P9.2: the error of slots.Check comes before those of slots and addresses.
func TestArenaBadTables(t *testing.T) {
	for e, tables := range badTables() {
		for _, cells := range tables {
			for _, a := range append(outside(), 1, 9, 1600) {
				arenaErrors(t, make([]uint64, 61), cells, a, e, e)
				arenaErrors(t, nil, cells, a, e, e)
			}
		}
	}
}

// P9.2: a slot has to be the number of a word, and to have at most 1600, whichever slot of the set it is.
func TestArenaSlots(t *testing.T) {
	for _, n := range []int{0, 1, 2, 3, 20, 1600} {
		arenaErrors(t, make([]uint64, n), cellsOf(max(n, 1)), 9, api.ErrRange, api.ErrRange)
		arenaErrors(t, make([]uint64, n), cellsOf(1600), 9, api.ErrRange, api.ErrRange)
		if n > 1 {
			arenaErrors(t, make([]uint64, n), cellsOf(1, n-1), 9, api.OK, api.OK)
			arenaErrors(t, make([]uint64, n), cellsOf(1, n), 9, api.ErrRange, api.ErrRange)
		}
	}
	for _, v := range badWords() {
		for _, slot := range []int{3, 4, 5, 6} {
			w := words(20, map[int]uint64{3: 9, 4: 9, 5: 7})
			w[slot] = v
			arenaErrors(t, w, cellsOf(3, 4, 5, 6), 9, api.ErrRange, api.ErrRange)
			arenaErrors(t, w, cellsOf(3, 4, 5, 6), 0, api.ErrRange, api.ErrRange)
			w[slot], w[7], w[0] = 1600, v, v
			arenaErrors(t, w, cellsOf(3, 4, 5, 6), 9, api.OK, api.OK)
		}
	}
}

// P9.2: Of and Holders return ErrRange for what is no address, also for 0, which slots have; Counts does not look at it.
func TestNoAddress(t *testing.T) {
	for _, a := range outside() {
		arenaErrors(t, words(20, map[int]uint64{3: 9}), cellsOf(3, 4), a, api.OK, api.ErrRange)
		arenaErrors(t, nil, cellsOf(), a, api.OK, api.ErrRange)
	}
}

// P9.3: Popular returns the targets with at least q, ascending; q is from 1 to 1600.
func TestPopular(t *testing.T) {
	l := counts(2, 3, 5, 1, 7, 2, 9, 3, 1600, 1600)
	for _, c := range []struct {
		q    int
		want []int
	}{
		{1, []int{2, 5, 7, 9, 1600}}, {2, []int{2, 7, 9, 1600}}, {3, []int{2, 9, 1600}}, {4, []int{1600}}, {1599, []int{1600}}, {1600, []int{1600}},
	} {
		if got, e := referrers.Popular(l, c.q); !slices.Equal(got, c.want) || e != api.OK {
			t.Errorf("Popular of %d: %v, %d", c.q, got, e)
		}
		if got, e := referrers.Popular(nil, c.q); len(got) != 0 || e != api.OK {
			t.Errorf("Popular of nothing, %d: %v, %d", c.q, got, e)
		}
	}
	if got, e := referrers.Popular(full(1600, 1599), 1600); len(got) != 0 || e != api.OK {
		t.Errorf("Popular of 1600: %v, %d", got, e)
	}
	if got, e := referrers.Popular(full(1600, 1600), 1600); !slices.Equal(got, upTo(1600)) || e != api.OK {
		t.Errorf("Popular of 1600: %v, %d", got, e)
	}
	for _, q := range outside() {
		for _, l := range [][]api.RfCount{nil, l} {
			if got, e := referrers.Popular(l, q); len(got) != 0 || e != api.ErrRange {
				t.Errorf("Popular of %d: %v, %d", q, got, e)
			}
		}
	}
}

// P9.3: Most returns the count with the greatest number, of several the first one; ErrNone if there are none.
func TestMost(t *testing.T) {
	for i, c := range []struct {
		l    []api.RfCount
		want api.RfCount
		e    api.Errno
	}{
		{nil, api.RfCount{}, api.ErrNone},
		{[]api.RfCount{}, api.RfCount{}, api.ErrNone},
		{counts(9, 1), api.RfCount{Target: 9, N: 1}, api.OK},
		{counts(7, 1, 9, 2), api.RfCount{Target: 9, N: 2}, api.OK},
		{counts(7, 2, 9, 1), api.RfCount{Target: 7, N: 2}, api.OK},
		{counts(7, 2, 9, 2), api.RfCount{Target: 7, N: 2}, api.OK},
		{counts(1, 1, 7, 2, 8, 1, 9, 2, 1600, 2), api.RfCount{Target: 7, N: 2}, api.OK},
		{counts(1, 5, 2, 1600, 3, 1600), api.RfCount{Target: 2, N: 1600}, api.OK},
		{full(1600, 3), api.RfCount{Target: 1, N: 3}, api.OK},
	} {
		if got, e := referrers.Most(c.l); got != c.want || e != c.e {
			t.Errorf("%d: Most: %v, %d; want %v, %d", i, got, e, c.want, c.e)
		}
	}
}

// P9.4: Merge adds up the numbers of targets that are in both, and has those that are in one of them only; no sum may be above 1600.
func TestMerge(t *testing.T) {
	for i, c := range []struct {
		l, m, want []api.RfCount
		e          api.Errno
	}{
		{nil, nil, nil, api.OK},
		{counts(7, 1), nil, counts(7, 1), api.OK},
		{counts(7, 1), counts(9, 2), counts(7, 1, 9, 2), api.OK},
		{counts(7, 1, 9, 2), counts(7, 3, 8, 4), counts(7, 4, 8, 4, 9, 2), api.OK},
		{counts(1, 1, 1600, 2), counts(2, 5), counts(1, 1, 2, 5, 1600, 2), api.OK},
		{counts(7, 1), counts(7, 1599), counts(7, 1600), api.OK},
		{counts(7, 800), counts(7, 800), counts(7, 1600), api.OK},
		{counts(7, 1), counts(7, 1600), nil, api.ErrRange},
		{counts(7, 801), counts(7, 800), nil, api.ErrRange},
		{counts(7, 1600), counts(7, 1600), nil, api.ErrRange},
		{counts(7, 1600), counts(8, 1600), counts(7, 1600, 8, 1600), api.OK},
		{counts(1, 1, 7, 1600), counts(2, 1, 7, 1), nil, api.ErrRange},
		{full(1600, 799), full(1600, 801), full(1600, 1600), api.OK},
		{full(1600, 1), counts(1600, 1600), nil, api.ErrRange},
		{full(1599, 1), counts(1600, 1), full(1600, 1), api.OK},
	} {
		got, e := referrers.Merge(c.l, c.m)
		back, f := referrers.Merge(c.m, c.l)
		if !slices.Equal(got, c.want) || e != c.e || !slices.Equal(back, c.want) || f != c.e {
			t.Errorf("%d: Merge of %v and %v: %v, %d; in the other order %v, %d", i, c.l, c.m, got, e, back, f)
		}
	}
}

// P9.4: Within returns the counts whose targets are from from on, and below to; both may be any numbers.
func TestWithin(t *testing.T) {
	l := counts(1, 4, 7, 1, 9, 2, 1600, 3)
	for _, from := range edgeNumbers() {
		for _, to := range edgeNumbers() {
			var want []api.RfCount
			for _, c := range l {
				if c.Target >= from && c.Target < to {
					want = append(want, c)
				}
			}
			if got, e := referrers.Within(l, from, to); !slices.Equal(got, want) || e != api.OK {
				t.Errorf("Within %d and %d: %v, %d", from, to, got, e)
			}
			if got, e := referrers.Within(nil, from, to); len(got) != 0 || e != api.OK {
				t.Errorf("Within %d and %d, of nothing: %v, %d", from, to, got, e)
			}
		}
	}
	for _, c := range []struct {
		from, to int
		want     []api.RfCount
	}{
		{7, 9, counts(7, 1)}, {7, 10, counts(7, 1, 9, 2)}, {8, 9, nil}, {9, 7, nil}, {9, 9, nil}, {0, 1601, l}, {1, 1600, l[:3]}, {1600, 1601, l[3:]},
	} {
		if got, e := referrers.Within(l, c.from, c.to); !slices.Equal(got, c.want) || e != api.OK {
			t.Errorf("Within %d and %d: %v, %d", c.from, c.to, got, e)
		}
	}
}

// The chapter's examples.
func TestExamples(t *testing.T) {
	w := words(20, map[int]uint64{3: 9, 4: 9, 5: 7})
	s := api.SlSet{Cells: cellsOf(3, 4, 5, 6)}
	l, e := referrers.Counts(w, s)
	if !slices.Equal(l, counts(7, 1, 9, 2)) || e != api.OK {
		t.Errorf("Counts: %v, %d", l, e)
	}
	nine, e1 := referrers.Of(w, s, 9)
	eight, e2 := referrers.Of(w, s, 8)
	holders, e3 := referrers.Holders(w, s, 9)
	if nine != 2 || eight != 0 || !slices.Equal(holders, []int{3, 4}) || e1 != api.OK || e2 != api.OK || e3 != api.OK {
		t.Errorf("Of: %d, %d; %d, %d; Holders: %v, %d", nine, e1, eight, e2, holders, e3)
	}
	popular, e1 := referrers.Popular(l, 2)
	most, e2 := referrers.Most(l)
	if !slices.Equal(popular, []int{9}) || most != (api.RfCount{Target: 9, N: 2}) || e1 != api.OK || e2 != api.OK {
		t.Errorf("Popular: %v, %d; Most: %v, %d", popular, e1, most, e2)
	}
	if l, e := referrers.Counts(w, api.SlSet{Cells: cellsOf(20)}); len(l) != 0 || e != api.ErrRange {
		t.Errorf("Counts of the slot 20: %v, %d", l, e)
	}
}
