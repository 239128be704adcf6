package arena_test

import (
	"slices"
	"testing"

	"shunter/api"
	"shunter/arena"
)

// P3.1: New returns the words of a config, all of them 0.
func TestNew(t *testing.T) {
	for _, c := range []struct {
		c     api.Config
		words int
	}{
		{api.Config{C: 8, N: 7, S: 4, K: 1, Q: 2}, 61},
		{api.Config{C: 64, N: 24, S: 64, K: 8, Q: 16}, 1601},
		{api.Config{C: 9, N: 8, S: 64, K: 8, Q: 16}, 137},
		{api.Config{C: 64, N: 7, S: 5, K: 8, Q: 16}, 454},
	} {
		v, e := arena.New(c.c)
		if len(v) != c.words || e != api.OK || slices.ContainsFunc(v, func(x uint64) bool { return x != 0 }) {
			t.Errorf("New(%v): %d words, %d", c.c, len(v), e)
		}
		if e := arena.Check(v); e != api.OK {
			t.Errorf("Check of New(%v): %d", c.c, e)
		}
	}
}

// P3.1, R2: New returns the error of config.Check, and no arena.
func TestNewOfBadConfigs(t *testing.T) {
	for _, c := range []api.Config{
		{},
		{C: 7, N: 7, S: 4, K: 1, Q: 2},
		{C: 65, N: 24, S: 64, K: 8, Q: 16},
		{C: 8, N: 6, S: 4, K: 1, Q: 2},
		{C: 64, N: 25, S: 64, K: 8, Q: 16},
		{C: 8, N: 7, S: 3, K: 1, Q: 2},
		{C: 64, N: 24, S: 65, K: 8, Q: 16},
		{C: 8, N: 7, S: 4, K: 0, Q: 2},
		{C: 8, N: 7, S: 4, K: 9, Q: 2},
		{C: 8, N: 7, S: 4, K: 1, Q: 1},
		{C: 8, N: 7, S: 4, K: 1, Q: 17},
		{C: -8, N: -7, S: 100, K: 1, Q: 2},
	} {
		if v, e := arena.New(c); len(v) != 0 || e != api.ErrRange {
			t.Errorf("New(%v): %d words, %d", c, len(v), e)
		}
	}
}

// P3.1: Check looks at the number of words first, then at the word 0, and at no other one.
func TestCheck(t *testing.T) {
	first := func(n int) []uint64 {
		v := make([]uint64, n)
		v[0] = 1
		return v
	}
	for i, c := range []struct {
		v    []uint64
		want api.Errno
	}{
		{nil, api.ErrLong},
		{[]uint64{}, api.ErrLong},
		{make([]uint64, 0, 8), api.ErrLong},
		{[]uint64{0}, api.OK},
		{[]uint64{0, 1 << 63}, api.OK},
		{w(), api.OK},
		{counted(1600), api.OK},
		{counted(1601), api.OK},
		{counted(1602), api.ErrLong},
		{counted(100000), api.ErrLong},
		{[]uint64{1}, api.ErrForm},
		{[]uint64{1 << 63, 0}, api.ErrForm},
		{first(6), api.ErrForm},
		{first(1601), api.ErrForm},
		{first(1602), api.ErrLong},
	} {
		if e := arena.Check(c.v); e != c.want {
			t.Errorf("%d: Check of %d words: %d", i, len(c.v), e)
		}
	}
}

// P3.2: Get returns the word; there is none at 0, nor beyond the last address.
func TestGet(t *testing.T) {
	for _, n := range lengths() {
		v := counted(n)
		for a := 1; a < n; a++ {
			if x, e := arena.Get(v, a); x != v[a] || e != api.OK {
				t.Fatalf("Get(%d words, %d): %d, %d", n, a, x, e)
			}
		}
		for _, a := range append(edgeNumbers(), n, n+1) {
			if a > 0 && a < n {
				continue
			}
			if x, e := arena.Get(v, a); x != 0 || e != api.ErrRange {
				t.Errorf("Get(%d words, %d): %d, %d", n, a, x, e)
			}
		}
	}
}

// P3.2, P3.8: Set changes that word, and no other one.
func TestSet(t *testing.T) {
	for _, n := range lengths() {
		v := counted(n)
		for a := 1; a < n; a++ {
			for _, x := range []uint64{0, 1, 1<<64 - 1} {
				want := slices.Clone(v)
				want[a] = x
				if got, e := arena.Set(v, a, x); !slices.Equal(got, want) || e != api.OK {
					t.Fatalf("Set(%d words, %d, %d): %v, %d", n, a, x, got, e)
				}
			}
		}
		for _, a := range append(edgeNumbers(), n, n+1) {
			if a > 0 && a < n {
				continue
			}
			if got, e := arena.Set(v, a, 9); len(got) != 0 || e != api.ErrRange {
				t.Errorf("Set(%d words, %d): %v, %d", n, a, got, e)
			}
		}
	}
}

// P3.3: what Copy returns, for all parts of the examples' arena, and for what is none.
func TestCopy(t *testing.T) {
	try := func(from, to, n int) {
		want := expected(w(), []api.ArOp{{Kind: api.ArCopy, At: from, To: to, N: n}})
		if got, e := arena.Copy(w(), from, to, n); !slices.Equal(got, want.v) || e != want.e {
			t.Fatalf("Copy(%d, %d, %d): %v, %d; want %v, %d", from, to, n, got, e, want.v, want.e)
		}
	}
	for _, numbers := range [][]int{around(), edgeNumbers()} {
		for _, from := range numbers {
			for _, to := range numbers {
				for _, n := range numbers {
					try(from, to, n)
				}
			}
		}
	}
}

// P3.3: parts that overlap are copied as they were before, in both directions.
func TestCopyOntoItself(t *testing.T) {
	for _, c := range []struct {
		from, to, n int
		want        []uint64
	}{
		{1, 2, 3, []uint64{0, 1, 1, 2, 3, 5}},
		{2, 1, 3, []uint64{0, 2, 3, 4, 4, 5}},
		{1, 2, 4, []uint64{0, 1, 1, 2, 3, 4}},
		{2, 1, 4, []uint64{0, 2, 3, 4, 5, 5}},
		{1, 1, 5, []uint64{0, 1, 2, 3, 4, 5}},
		{1, 3, 3, []uint64{0, 1, 2, 1, 2, 3}},
		{3, 1, 3, []uint64{0, 3, 4, 5, 4, 5}},
		{6, 1, 0, []uint64{0, 1, 2, 3, 4, 5}},
		{1, 6, 0, []uint64{0, 1, 2, 3, 4, 5}},
	} {
		if got, e := arena.Copy(w(), c.from, c.to, c.n); !slices.Equal(got, c.want) || e != api.OK {
			t.Errorf("Copy(%d, %d, %d): %v, %d", c.from, c.to, c.n, got, e)
		}
	}
}

// P3.3: Copy returns ErrRange if only one of both parts is none.
func TestCopyOfNoPart(t *testing.T) {
	for _, c := range [][3]int{{4, 1, 3}, {1, 4, 3}, {0, 1, 2}, {1, 0, 2}, {0, 1, 0}, {1, 0, 0}, {7, 1, 0}, {1, 7, 0}, {6, 1, 1}, {1, 6, 1}, {1, 2, -1}, {1, 1, 6}} {
		if got, e := arena.Copy(w(), c[0], c[1], c[2]); len(got) != 0 || e != api.ErrRange {
			t.Errorf("Copy%v: %v, %d", c, got, e)
		}
	}
}

// P3.3: what Clear returns, for all parts of the examples' arena, and for what is none.
func TestClear(t *testing.T) {
	for _, numbers := range [][]int{around(), edgeNumbers()} {
		for _, a := range numbers {
			for _, n := range numbers {
				want := expected(w(), []api.ArOp{{Kind: api.ArClear, At: a, N: n}})
				if got, e := arena.Clear(w(), a, n); !slices.Equal(got, want.v) || e != want.e {
					t.Fatalf("Clear(%d, %d): %v, %d; want %v, %d", a, n, got, e, want.v, want.e)
				}
			}
		}
	}
}

// P3.3: in an arena without an address, and in the largest one, the parts are as stated.
func TestPartsOfLeastAndLargest(t *testing.T) {
	for _, c := range []struct {
		words, a, n int
		want        api.Errno
	}{
		{1, 1, 0, api.OK},
		{1, 0, 0, api.ErrRange},
		{1, 2, 0, api.ErrRange},
		{1, 1, 1, api.ErrRange},
		{1601, 1, 1600, api.OK},
		{1601, 1, 1601, api.ErrRange},
		{1601, 1600, 1, api.OK},
		{1601, 1600, 2, api.ErrRange},
		{1601, 1601, 0, api.OK},
		{1601, 1601, 1, api.ErrRange},
		{1601, 1602, 0, api.ErrRange},
	} {
		v := counted(c.words)
		_, e := arena.Clear(v, c.a, c.n)
		_, f := arena.Copy(v, c.a, c.a, c.n)
		_, g := arena.Zero(v, c.a, c.a+c.n)
		if e != c.want || f != c.want || g != c.want {
			t.Errorf("%d words from %d on, of %d: Clear %d, Copy %d, Zero %d", c.n, c.a, c.words, e, f, g)
		}
	}
}

// P3.5: Zero tells whether all words of a part are 0, for all parts of small arenas with a word that is not 0.
func TestZero(t *testing.T) {
	for other := 1; other < 7; other++ {
		v := make([]uint64, 6)
		if other < 6 {
			v[other] = 1 << 63
		}
		for _, from := range around() {
			for _, to := range around() {
				is, e := arena.Zero(v, from, to)
				if !isPart(6, from, to-from) {
					if is || e != api.ErrRange {
						t.Fatalf("Zero(%v, %d, %d): %v, %d", v, from, to, is, e)
					}
				} else if want := other < from || other >= to; is != want || e != api.OK {
					t.Fatalf("Zero(%v, %d, %d): %v, %d", v, from, to, is, e)
				}
			}
		}
	}
}

// P3.5, R1: Zero accepts any numbers, also those whose difference is no int.
func TestZeroOfAnyNumbers(t *testing.T) {
	for _, n := range []int{1, 6, 1601} {
		v := make([]uint64, n)
		for _, from := range edgeNumbers() {
			for _, to := range edgeNumbers() {
				part := 1 <= from && from <= to && to <= n
				is, e := arena.Zero(v, from, to)
				if is != part || (e == api.OK) != part || !part && e != api.ErrRange {
					t.Errorf("Zero(%d words, %d, %d): %v, %d", n, from, to, is, e)
				}
			}
		}
	}
}

// P3.5: Differ returns the addresses of words that are not equal, ascending.
func TestDiffer(t *testing.T) {
	for set := range 32 {
		v, want := w(), []int(nil)
		for a := 1; a <= 5; a++ {
			if set>>(a-1)&1 == 1 {
				v[a] ^= 1 << 63
				want = append(want, a)
			}
		}
		if l, e := arena.Differ(w(), v); !slices.Equal(l, want) || e != api.OK {
			t.Errorf("Differ(%v): %v, %d", v, l, e)
		}
		if l, e := arena.Differ(v, w()); !slices.Equal(l, want) || e != api.OK {
			t.Errorf("Differ the other way (%v): %v, %d", v, l, e)
		}
	}
	l, e := arena.Differ(counted(1601), make([]uint64, 1601))
	if len(l) != 1600 || l[0] != 1 || l[1599] != 1600 || !slices.IsSorted(l) || e != api.OK {
		t.Errorf("Differ of large arenas: %v, %d", l, e)
	}
	if l, e := arena.Differ([]uint64{0}, []uint64{0}); len(l) != 0 || e != api.OK {
		t.Errorf("Differ of arenas without addresses: %v, %d", l, e)
	}
}

// P3.5: Differ returns ErrForm if one arena has more words, though they begin with the same ones.
func TestDifferOfOtherLengths(t *testing.T) {
	for _, n := range lengths() {
		for _, m := range lengths() {
			l, e := arena.Differ(counted(n), counted(m))
			if len(l) != 0 || n == m && e != api.OK || n != m && e != api.ErrForm {
				t.Errorf("Differ of %d and %d words: %v, %d", n, m, l, e)
			}
		}
	}
}

// The chapter's examples, but those of Play.
func TestExamples(t *testing.T) {
	for _, c := range []struct {
		a    int
		want uint64
		e    api.Errno
	}{{5, 5, api.OK}, {0, 0, api.ErrRange}, {6, 0, api.ErrRange}} {
		if x, e := arena.Get(w(), c.a); x != c.want || e != c.e {
			t.Errorf("Get(%d): %d, %d", c.a, x, e)
		}
	}
	for _, c := range []struct {
		a, n int
		want []uint64
		e    api.Errno
	}{{4, 2, []uint64{0, 1, 2, 3, 0, 0}, api.OK}, {6, 0, w(), api.OK}, {5, 2, nil, api.ErrRange}} {
		if v, e := arena.Clear(w(), c.a, c.n); !slices.Equal(v, c.want) || e != c.e {
			t.Errorf("Clear(%d, %d): %v, %d", c.a, c.n, v, e)
		}
	}
	for to, want := range map[int]bool{1: true, 3: false} {
		if is, e := arena.Zero(w(), 1, to); is != want || e != api.OK {
			t.Errorf("Zero(1, %d): %v, %d", to, is, e)
		}
	}
	v, _ := arena.Copy(w(), 1, 2, 3)
	if l, e := arena.Differ(w(), v); !slices.Equal(l, []int{2, 3, 4}) || e != api.OK {
		t.Errorf("Differ: %v, %d", l, e)
	}
}
