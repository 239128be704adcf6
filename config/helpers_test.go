package config_test

import (
	"math"
	"math/rand"
	"strconv"

	"shunter/api"
	"shunter/config"
)

// a is the config of the chapter's examples.
var a = api.Config{C: 8, N: 7, S: 4, K: 1, Q: 2}

// greatest has the greatest number everywhere.
var greatest = api.Config{C: 64, N: 24, S: 64, K: 8, Q: 16}

// ranges are the least and the greatest number of each kind, as the chapter has them, in the order C, N, S, K, Q.
var ranges = [5][2]int{{8, 64}, {7, 24}, {4, 64}, {1, 8}, {2, 16}}

func of(n [5]int) api.Config { return api.Config{C: n[0], N: n[1], S: n[2], K: n[3], Q: n[4]} }

func numbers(c api.Config) [5]int { return [5]int{c.C, c.N, c.S, c.K, c.Q} }

// good says whether all numbers are as the chapter has them.
func good(c api.Config) bool {
	for i, n := range numbers(c) {
		if n < ranges[i][0] || n > ranges[i][1] {
			return false
		}
	}
	return true
}

// combine calls do for all configs with numbers of these kinds.
func combine(l [5][]int, do func(c api.Config)) {
	for _, c := range l[0] {
		for _, n := range l[1] {
			for _, s := range l[2] {
				for _, k := range l[3] {
					for _, q := range l[4] {
						do(of([5]int{c, n, s, k, q}))
					}
				}
			}
		}
	}
}

func span(low, high int) []int {
	var l []int
	for n := low; n <= high; n++ {
		l = append(l, n)
	}
	return l
}

// sizes calls do for all configs with good sizes, whose registers and referrers are the least, or the greatest.
func sizes(do func(c api.Config)) {
	combine([5][]int{span(8, 64), span(7, 24), span(4, 64), {1, 8}, {2}}, func(c api.Config) {
		if c.K == 8 {
			c.Q = 16
		}
		do(c)
	})
}

// someSizes calls do for few configs, that are at the edges, or between them.
func someSizes(do func(c api.Config)) {
	combine([5][]int{{8, 9, 15, 16, 63, 64}, {7, 8, 23, 24}, {4, 5, 7, 8, 33, 64}, {1, 8}, {2, 16}}, do)
}

// badConfigs are configs of which one number, or all of them, are not as they should be.
func badConfigs() []api.Config {
	l := []api.Config{{}, {C: -8, N: -7, S: -4, K: -1, Q: -2}, of([5]int{65, 25, 65, 9, 17})}
	for i, r := range ranges {
		for _, n := range []int{math.MinInt, math.MinInt + 1, -r[0], -1, 0, r[0] - 1, r[1] + 1, r[1] + 1<<32, math.MaxInt - 1, math.MaxInt} {
			for _, c := range []api.Config{a, greatest} {
				bad := numbers(c)
				bad[i] = n
				l = append(l, of(bad))
			}
		}
	}
	return l
}

// edgeNumbers are numbers that are not addresses, cars, or offsets of most configs, and some that are.
func edgeNumbers() []int {
	l := []int{math.MinInt, math.MinInt + 1, math.MinInt32, -1 << 40, -1601, 1 << 32, 1<<32 + 1, 1 << 40, math.MaxInt32, math.MaxInt - 1, math.MaxInt}
	return append(l, span(-70, 70)...)
}

// dice returns numbers that are the same in each run.
func dice() *rand.Rand { return rand.New(rand.NewSource(1)) }

func anyGood(r *rand.Rand) api.Config {
	var n [5]int
	for i, x := range ranges {
		n[i] = x[0] + r.Intn(x[1]-x[0]+1)
	}
	return of(n)
}

// textOf writes the text of a config, good or not.
func textOf(c api.Config) string {
	return "cars " + strconv.Itoa(c.N) + " of " + strconv.Itoa(c.C) + " nursery " + strconv.Itoa(c.S) + " registers " + strconv.Itoa(c.K) + " popular " + strconv.Itoa(c.Q)
}

// must returns the number of a call that has no error.
func must(f func(api.Config) (int, api.Errno), c api.Config) int {
	n, e := f(c)
	if e != api.OK {
		panic("an error for a good config: " + textOf(c))
	}
	return n
}

func fits(c api.Config, n int) bool {
	ok, e := config.Fits(c, n)
	if e != api.OK {
		panic("an error for a good config: " + textOf(c))
	}
	return ok
}
