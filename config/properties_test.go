package config_test

import (
	"testing"

	"shunter/api"
	"shunter/config"
)

// P2.6: the spaces lie one after the other, the nursery first, without a gap, up to the last address.
func TestSpacesLieInARow(t *testing.T) {
	sizes(func(c api.Config) {
		next := 1
		for car := -1; car < c.N; car++ {
			start, end, e := config.Space(c, car)
			want := c.C
			if car == -1 {
				want = c.S
			}
			if e != api.OK || start != next || end-start != want {
				t.Fatalf("Space(%v, %d): %d, %d, %d", c, car, start, end, e)
			}
			next = end
		}
		if next != must(config.Words, c) {
			t.Fatalf("%v: the spaces end at %d", c, next)
		}
	})
}

// P2.6: each address belongs to just one space, and Car and Place name it.
func TestOneSpaceForAnAddress(t *testing.T) {
	someSizes(func(c api.Config) {
		spaces := make([][]int, must(config.Words, c))
		for car := -1; car < c.N; car++ {
			start, end, _ := config.Space(c, car)
			for i := start; i < end; i++ {
				spaces[i] = append(spaces[i], car)
			}
		}
		if len(spaces[0]) > 0 {
			t.Fatalf("%v: the address 0 belongs to %v", c, spaces[0])
		}
		for i := 1; i < len(spaces); i++ {
			car, e := config.Car(c, i)
			if e != api.OK || len(spaces[i]) != 1 || spaces[i][0] != car {
				t.Fatalf("%v: Car(%d): %d, %d; it belongs to %v", c, i, car, e, spaces[i])
			}
		}
	})
}

// P2.6: Address of Place is the address.
func TestAddressOfPlace(t *testing.T) {
	someSizes(func(c api.Config) {
		for i := 1; i < must(config.Words, c); i++ {
			car, offset, e := config.Place(c, i)
			got, f := config.Address(c, car, offset)
			if e != api.OK || f != api.OK || got != i {
				t.Fatalf("%v: Place(%d): %d, %d; its Address: %d", c, i, car, offset, got)
			}
		}
	})
}

// P2.6: Place of Address is car and offset.
func TestPlaceOfAddress(t *testing.T) {
	someSizes(func(c api.Config) {
		for car := -1; car < c.N; car++ {
			words := c.C
			if car == -1 {
				words = c.S
			}
			for offset := range words {
				i, e := config.Address(c, car, offset)
				gotCar, gotOffset, f := config.Place(c, i)
				if e != api.OK || f != api.OK || gotCar != car || gotOffset != offset {
					t.Fatalf("%v: Address(%d, %d): %d; its Place: %d, %d", c, car, offset, i, gotCar, gotOffset)
				}
			}
		}
	})
}

// P2.7: the budget leaves six cars, and has one; what fits, fits into a nursery, and two of it into a car.
func TestRoom(t *testing.T) {
	sizes(func(c api.Config) {
		budget, h := must(config.Budget, c), c.N*c.C
		if budget < c.C || budget > h-6*c.C {
			t.Fatalf("%v: the budget is %d", c, budget)
		}
		for n := 1; n <= 65; n++ {
			if fits(c, n) && (n > c.S || 2*n > c.C) {
				t.Fatalf("Fits(%v, %d)", c, n)
			}
		}
		// No rule but these two keeps an object out.
		if n := must(config.Largest, c); !fits(c, n) || n+1 <= c.S && 2*(n+1) <= c.C {
			t.Fatalf("%v: the largest object has %d words", c, n)
		}
	})
}

// P2.7: with more cars the bound and the budget grow.
func TestMoreCars(t *testing.T) {
	sizes(func(c api.Config) {
		more := c
		more.N++
		if more.N > 24 {
			return
		}
		if must(config.Bound, more) <= must(config.Bound, c) || must(config.Budget, more) <= must(config.Budget, c) {
			t.Fatalf("%v: more cars, and no more bound or budget", c)
		}
	})
}

// P2.8: Parse of Print is the config.
func TestParseOfPrint(t *testing.T) {
	check := func(c api.Config) {
		s, e := config.Print(c)
		if got, f := config.Parse(s); e != api.OK || f != api.OK || got != c {
			t.Fatalf("Print(%v): %q, %d; its Parse: %v, %d", c, s, e, got, f)
		}
	}
	someSizes(check)
	r := dice()
	for range 50000 {
		check(anyGood(r))
	}
}

// P2.8: Print of Parse is the text.
func TestPrintOfParse(t *testing.T) {
	r := dice()
	for range 50000 {
		s := textOf(anyGood(r))
		c, e := config.Parse(s)
		if got, f := config.Print(c); e != api.OK || f != api.OK || got != s {
			t.Fatalf("Parse(%q): %v, %d; its Print: %q, %d", s, c, e, got, f)
		}
	}
}
