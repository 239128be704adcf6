package config_test

import (
	"reflect"
	"strings"
	"testing"

	"shunter/api"
	"shunter/config"
)

// results calls all functions with a config, and collects what each returns, the error last.
func results(c api.Config, n, m int) [][]any {
	words, e1 := config.Words(c)
	largest, e2 := config.Largest(c)
	budget, e3 := config.Budget(c)
	bound, e4 := config.Bound(c)
	start, end, e5 := config.Space(c, n)
	car, e6 := config.Car(c, n)
	place, offset, e7 := config.Place(c, n)
	address, e8 := config.Address(c, n, m)
	fits, e9 := config.Fits(c, n)
	text, e10 := config.Print(c)
	return [][]any{{words, e1}, {largest, e2}, {budget, e3}, {bound, e4}, {start, end, e5}, {car, e6}, {place, offset, e7}, {address, e8}, {fits, e9}, {text, e10}}
}

// zeroWith reports whether the results are an error, and zero values.
func zeroWith(l []any, e api.Errno) bool {
	for _, x := range l[:len(l)-1] {
		if !reflect.ValueOf(x).IsZero() {
			return false
		}
	}
	return l[len(l)-1] == any(e)
}

// P2.1 to P2.5, R2: all functions with a config return the error of Check, and zero values.
func TestErrorsOfCheck(t *testing.T) {
	for _, c := range badConfigs() {
		if e := config.Check(c); e != api.ErrRange {
			t.Errorf("Check(%v): %d", c, e)
		}
		for _, n := range edgeNumbers() {
			for i, l := range results(c, n, 0) {
				if !zeroWith(l, api.ErrRange) {
					t.Errorf("%v with %d: function %d: %v", c, n, i, l)
				}
			}
		}
	}
}

// R1, R2, R6, P2.8: any numbers are accepted; with an error the rest is zero; the same arguments have the same results.
func TestAnyNumbers(t *testing.T) {
	r := dice()
	edges := edgeNumbers()
	for i := range 50000 {
		c := anyGood(r)
		if i%2 == 0 {
			l := numbers(c)
			l[r.Intn(5)] = edges[r.Intn(len(edges))]
			c = of(l)
		}
		n, m := edges[r.Intn(len(edges))], edges[r.Intn(len(edges))]
		got := results(c, n, m)
		for j, l := range got {
			if e := l[len(l)-1].(api.Errno); e != api.OK && !zeroWith(l, api.ErrRange) {
				t.Fatalf("%v with %d, %d: function %d: %v", c, n, m, j, l)
			}
		}
		if !reflect.DeepEqual(got, results(c, n, m)) {
			t.Fatalf("%v with %d, %d: results differ", c, n, m)
		}
	}
}

// R1, R2: any text is accepted, of any length.
func TestLongTexts(t *testing.T) {
	for _, s := range []string{strings.Repeat(" ", 1<<20), strings.Repeat("cars ", 1<<18), strings.Repeat("9", 1<<20), "cars " + strings.Repeat("9", 1<<20), strings.Repeat("\xff", 1<<20)} {
		if c, e := config.Parse(s); c != (api.Config{}) || e != api.ErrForm {
			t.Errorf("Parse(%.20q): %v, %d", s, c, e)
		}
	}
	s := "cars " + strings.Repeat("9", 1<<20) + " of 8 nursery 4 registers 1 popular 2"
	if c, e := config.Parse(s); c != (api.Config{}) || e != api.ErrRange {
		t.Errorf("Parse of a number with many digits: %v, %d", c, e)
	}
}
