package config_test

import (
	"math"
	"testing"

	"shunter/api"
	"shunter/config"
)

// P2.1: each number alone, from below its least one to above its greatest one.
func TestCheckEachNumber(t *testing.T) {
	for i, r := range ranges {
		for n := -70; n <= 140; n++ {
			for _, c := range []api.Config{a, greatest} {
				l := numbers(c)
				l[i] = n
				want := api.ErrRange
				if r[0] <= n && n <= r[1] {
					want = api.OK
				}
				if e := config.Check(of(l)); e != want {
					t.Errorf("Check(%v): %d, want %d", of(l), e, want)
				}
			}
		}
	}
}

// P2.1: all numbers at their edges, and beyond them.
func TestCheckAllNumbers(t *testing.T) {
	var l [5][]int
	for i, r := range ranges {
		l[i] = []int{math.MinInt, -1, 0, r[0] - 1, r[0], r[0] + 1, r[1] - 1, r[1], r[1] + 1, math.MaxInt}
	}
	combine(l, func(c api.Config) {
		if e := config.Check(c); (e == api.OK) != good(c) || e != api.OK && e != api.ErrRange {
			t.Fatalf("Check(%v): %d", c, e)
		}
	})
}

// P2.1: numbers that are good for another kind only.
func TestCheckExamples(t *testing.T) {
	for c, want := range map[api.Config]api.Errno{
		a:                               api.OK,
		greatest:                        api.OK,
		{C: 8, N: 9, S: 6, K: 2, Q: 2}:  api.OK,
		{C: 8, N: 6, S: 4, K: 1, Q: 2}:  api.ErrRange,
		{C: 7, N: 8, S: 4, K: 1, Q: 2}:  api.ErrRange,
		{C: 8, N: 7, S: 4, K: 2, Q: 1}:  api.ErrRange,
		{C: 4, N: 7, S: 8, K: 1, Q: 2}:  api.ErrRange,
		{C: 8, N: 7, S: 4, K: 9, Q: 9}:  api.ErrRange,
		{C: 8, N: 64, S: 4, K: 1, Q: 2}: api.ErrRange,
		{}:                              api.ErrRange,
	} {
		if e := config.Check(c); e != want {
			t.Errorf("Check(%v): %d, want %d", c, e, want)
		}
	}
}

// P2.2
func TestNumbersExamples(t *testing.T) {
	for _, x := range []struct {
		c                             api.Config
		words, largest, budget, bound int
	}{
		{a, 61, 4, 8, 3648},
		{api.Config{C: 8, N: 9, S: 6, K: 2, Q: 2}, 79, 4, 24, 7300},
		{api.Config{C: 8, N: 8, S: 6, K: 2, Q: 2}, 71, 4, 16, 5265},
		{api.Config{C: 9, N: 7, S: 64, K: 1, Q: 2}, 128, 4, 9, 4096},
		{api.Config{C: 10, N: 10, S: 4, K: 1, Q: 2}, 105, 4, 40, 12221},
		{api.Config{C: 64, N: 7, S: 31, K: 1, Q: 2}, 480, 31, 64, 28736},
		{api.Config{C: 64, N: 7, S: 32, K: 1, Q: 2}, 481, 32, 64, 28736},
		{api.Config{C: 64, N: 7, S: 33, K: 1, Q: 2}, 482, 32, 64, 28736},
		{api.Config{C: 63, N: 24, S: 64, K: 1, Q: 2}, 1577, 31, 1134, 945625},
		{greatest, 1601, 32, 1152, 960625},
	} {
		got := [4]int{must(config.Words, x.c), must(config.Largest, x.c), must(config.Budget, x.c), must(config.Bound, x.c)}
		if want := [4]int{x.words, x.largest, x.budget, x.bound}; got != want {
			t.Errorf("%v: %v, want %v", x.c, got, want)
		}
	}
}

// P2.2: for all sizes, as the chapter defines them.
func TestNumbersOfAllSizes(t *testing.T) {
	sizes(func(c api.Config) {
		largest := c.C / 2
		if c.S < largest {
			largest = c.S
		}
		h := c.N * c.C
		want := [4]int{1 + c.S + h, largest, c.C * (c.N - 6), (c.N + 1) * (c.N + 1) * (h + 1)}
		if got := [4]int{must(config.Words, c), must(config.Largest, c), must(config.Budget, c), must(config.Bound, c)}; got != want {
			t.Fatalf("%v: %v, want %v", c, got, want)
		}
	})
}

// P2.2: they fit into the limits of api.
func TestWordsWithinLimits(t *testing.T) {
	if n := must(config.Words, greatest); n != api.MaxWords || n-1 != api.MaxAddress {
		t.Errorf("Words of the greatest config: %d", n)
	}
}

// P2.4
func TestFits(t *testing.T) {
	if !fits(a, 1) || !fits(a, 4) || fits(a, 5) || fits(a, 0) {
		t.Errorf("Fits of the chapter's config")
	}
	someSizes(func(c api.Config) {
		largest := min(c.C/2, c.S)
		for _, n := range append(edgeNumbers(), largest-1, largest, largest+1) {
			if got := fits(c, n); got != (1 <= n && n <= largest) {
				t.Fatalf("Fits(%v, %d): %v", c, n, got)
			}
		}
	})
}
