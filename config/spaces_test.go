package config_test

import (
	"testing"

	"shunter/api"
	"shunter/config"
)

// P2.3
func TestSpaceExamples(t *testing.T) {
	for _, x := range []struct {
		c               api.Config
		car, start, end int
		e               api.Errno
	}{
		{a, -1, 1, 5, api.OK},
		{a, 0, 5, 13, api.OK},
		{a, 1, 13, 21, api.OK},
		{a, 6, 53, 61, api.OK},
		{a, 7, 0, 0, api.ErrRange},
		{a, -2, 0, 0, api.ErrRange},
		{greatest, -1, 1, 65, api.OK},
		{greatest, 0, 65, 129, api.OK},
		{greatest, 23, 1537, 1601, api.OK},
		{greatest, 24, 0, 0, api.ErrRange},
		{greatest, -2, 0, 0, api.ErrRange},
	} {
		if start, end, e := config.Space(x.c, x.car); start != x.start || end != x.end || e != x.e {
			t.Errorf("Space(%v, %d): %d, %d, %d", x.c, x.car, start, end, e)
		}
	}
}

// P2.3
func TestPlaceExamples(t *testing.T) {
	for _, x := range []struct {
		c              api.Config
		a, car, offset int
		e              api.Errno
	}{
		{a, 1, -1, 0, api.OK},
		{a, 4, -1, 3, api.OK},
		{a, 5, 0, 0, api.OK},
		{a, 12, 0, 7, api.OK},
		{a, 13, 1, 0, api.OK},
		{a, 60, 6, 7, api.OK},
		{a, 61, 0, 0, api.ErrRange},
		{a, 0, 0, 0, api.ErrRange},
		{a, -1, 0, 0, api.ErrRange},
		{greatest, 64, -1, 63, api.OK},
		{greatest, 65, 0, 0, api.OK},
		{greatest, 1600, 23, 63, api.OK},
		{greatest, 1601, 0, 0, api.ErrRange},
		{greatest, 0, 0, 0, api.ErrRange},
	} {
		if car, offset, e := config.Place(x.c, x.a); car != x.car || offset != x.offset || e != x.e {
			t.Errorf("Place(%v, %d): %d, %d, %d", x.c, x.a, car, offset, e)
		}
		if car, e := config.Car(x.c, x.a); car != x.car || e != x.e {
			t.Errorf("Car(%v, %d): %d, %d", x.c, x.a, car, e)
		}
	}
}

// P2.3
func TestAddressExamples(t *testing.T) {
	for _, x := range []struct {
		c              api.Config
		car, offset, a int
		e              api.Errno
	}{
		{a, 1, 7, 20, api.OK},
		{a, 1, 8, 0, api.ErrRange},
		{a, 1, -1, 0, api.ErrRange},
		{a, -1, 0, 1, api.OK},
		{a, -1, 3, 4, api.OK},
		{a, -1, 4, 0, api.ErrRange},
		{a, -1, -1, 0, api.ErrRange},
		{a, 0, 0, 5, api.OK},
		{a, 6, 7, 60, api.OK},
		{a, 6, 8, 0, api.ErrRange},
		{a, 7, 0, 0, api.ErrRange},
		{a, 7, -8, 0, api.ErrRange},
		{a, -2, 0, 0, api.ErrRange},
		{a, -2, 8, 0, api.ErrRange},
		{api.Config{C: 8, N: 7, S: 12, K: 1, Q: 2}, -1, 11, 12, api.OK},
		{api.Config{C: 8, N: 7, S: 12, K: 1, Q: 2}, 0, 8, 0, api.ErrRange},
		{greatest, 23, 63, 1600, api.OK},
	} {
		if got, e := config.Address(x.c, x.car, x.offset); got != x.a || e != x.e {
			t.Errorf("Address(%v, %d, %d): %d, %d", x.c, x.car, x.offset, got, e)
		}
	}
}

// P2.3, P2.8: numbers that are far from all spaces, or near them.
func TestSpacesOfAnyNumbers(t *testing.T) {
	someSizes(func(c api.Config) {
		last := c.S + c.N*c.C
		for _, n := range append(edgeNumbers(), last-1, last, last+1, c.N-1, c.N, c.N+1) {
			start, end, e := config.Space(c, n)
			if is := -1 <= n && n < c.N; is != (e == api.OK) || !is && (start != 0 || end != 0 || e != api.ErrRange) {
				t.Fatalf("Space(%v, %d): %d, %d, %d", c, n, start, end, e)
			}
			car, offset, e := config.Place(c, n)
			if is := 1 <= n && n <= last; is != (e == api.OK) || !is && (car != 0 || offset != 0 || e != api.ErrRange) {
				t.Fatalf("Place(%v, %d): %d, %d, %d", c, n, car, offset, e)
			}
			if got, f := config.Car(c, n); got != car || f != e {
				t.Fatalf("Car(%v, %d): %d, %d", c, n, got, f)
			}
		}
	})
}

// P2.3, P2.8: likewise for cars and offsets together.
func TestAddressOfAnyNumbers(t *testing.T) {
	for _, c := range []api.Config{a, greatest, {C: 9, N: 8, S: 33, K: 1, Q: 2}} {
		for _, car := range append(edgeNumbers(), c.N) {
			for _, offset := range append(edgeNumbers(), c.C-1, c.C, c.S-1, c.S) {
				words := c.C
				if car == -1 {
					words = c.S
				}
				is := -1 <= car && car < c.N && 0 <= offset && offset < words
				got, e := config.Address(c, car, offset)
				if is != (e == api.OK) || !is && (got != 0 || e != api.ErrRange) {
					t.Fatalf("Address(%v, %d, %d): %d, %d", c, car, offset, got, e)
				}
			}
		}
	}
}
