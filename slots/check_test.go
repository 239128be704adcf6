package slots_test

import (
	"slices"
	"testing"

	"shunter/api"
	"shunter/slots"
)

// P7.1: how many cells a table may have; what is in them does not matter before this.
func TestCheckSizes(t *testing.T) {
	for _, c := range []struct {
		n    int
		want api.Errno
	}{
		{0, api.ErrForm}, {1, api.ErrForm}, {2, api.ErrForm}, {3, api.ErrForm}, {4, api.ErrForm}, {7, api.ErrForm}, {8, api.OK}, {9, api.ErrForm},
		{12, api.ErrForm}, {15, api.ErrForm}, {16, api.OK}, {17, api.ErrForm}, {24, api.ErrForm}, {32, api.OK}, {48, api.ErrForm}, {64, api.OK},
		{96, api.ErrForm}, {128, api.OK}, {256, api.OK}, {512, api.OK}, {1000, api.ErrForm}, {1024, api.OK}, {2048, api.OK}, {4095, api.ErrForm}, {4096, api.OK},
		{6144, api.ErrForm}, {8191, api.ErrForm}, {8192, api.OK}, {8193, api.ErrLong}, {10000, api.ErrLong}, {16384, api.ErrLong}, {65536, api.ErrLong},
	} {
		cell := 0
		if c.want != api.OK {
			cell = -1
		}
		if at, e := slots.Check(set(make([]int, c.n)...)); at != cell || e != c.want {
			t.Errorf("%d cells: %d, %d", c.n, at, e)
		}
		for _, v := range []int{gone, 1, 1601} {
			at, e := slots.Check(set(slices.Repeat([]int{v}, c.n)...))
			if c.want != api.OK && (at != -1 || e != c.want) || c.want == api.OK && (e == api.OK || e == api.ErrLong || e == api.ErrForm) {
				t.Errorf("%d cells with %d: %d, %d", c.n, v, at, e)
			}
		}
	}
	if at, e := slots.Check(api.SlSet{}); at != -1 || e != api.ErrForm {
		t.Errorf("no cells: %d, %d", at, e)
	}
}

// P7.1: each cell may be 0, SlGone, or an address, but nothing else.
func TestCheckRange(t *testing.T) {
	for _, n := range []int{8, 16, 128} {
		for i := range n {
			for _, v := range badCells() {
				cells := make([]int, n)
				cells[i] = v
				if at, e := slots.Check(set(cells...)); at != i || e != api.ErrRange {
					t.Errorf("%d of %d cells is %d: %d, %d", i, n, v, at, e)
				}
			}
			cells := make([]int, n)
			cells[i] = gone
			if at, e := slots.Check(set(cells...)); at != 0 || e != api.OK {
				t.Errorf("%d of %d cells is gone: %d, %d", i, n, at, e)
			}
		}
	}
	for i := range maxCells {
		cells := make([]int, maxCells)
		cells[i] = 1601
		if at, e := slots.Check(set(cells...)); at != i || e != api.ErrRange {
			t.Fatalf("%d: %d, %d", i, at, e)
		}
	}
}

// P7.1: of two cells with the same address the second one has the error, wherever the path of the address is, and at all distances.
func TestCheckTwice(t *testing.T) {
	for _, a := range []int{1, 2, 8, 1599, 1600} {
		for j := range 16 {
			for i := range j {
				cells := make([]int, 16)
				cells[i], cells[j] = a, a
				if at, e := slots.Check(set(cells...)); at != j || e != api.ErrTwice {
					t.Errorf("%d at %d and %d: %d, %d", a, i, j, at, e)
				}
			}
		}
	}
}

// P7.1: of several errors of cells the first cell counts; they come before that too many are not 0, and that comes before paths.
func TestCheckOrder(t *testing.T) {
	for i, c := range []struct {
		cells []int
		cell  int
		want  api.Errno
	}{
		{[]int{0, 1601, -2, 0, 0, 0, 0, 0}, 1, api.ErrRange},
		{[]int{0, -2, 1601, 0, 0, 0, 0, 0}, 1, api.ErrRange},
		{[]int{5, 5, 1601, 0, 0, 0, 0, 0}, 1, api.ErrTwice},
		{[]int{5, 1601, 5, 0, 0, 0, 0, 0}, 1, api.ErrRange},
		{[]int{1601, 1601, 0, 0, 0, 0, 0, 0}, 0, api.ErrRange},
		{[]int{5, 6, 6, 5, 6, 5, 0, 0}, 2, api.ErrTwice},
		{[]int{gone, gone, gone, gone, gone, gone, gone, 1601}, 7, api.ErrRange},
		{[]int{1, 2, 3, 4, 5, 6, 7, 1}, 7, api.ErrTwice},
		{[]int{1, 1, 1, 1, 1, 1, 1, 1}, 1, api.ErrTwice},
		{[]int{gone, gone, gone, gone, gone, gone, gone, gone}, -1, api.ErrFull},
		{[]int{1, 2, 3, 4, 5, 6, 7, 8}, -1, api.ErrFull},
		{[]int{8, 7, 6, 5, 4, 3, 2, 1}, -1, api.ErrFull},
		{[]int{1, 0, 3, 4, 5, 6, 7, 8}, -1, api.ErrFull},
		{[]int{8, 7, 6, 5, 4, 3, 0, 1}, -1, api.ErrFull},
		{[]int{gone, 0, gone, gone, gone, gone, gone, 3}, -1, api.ErrFull},
		{[]int{4, 0, gone, gone, gone, gone, gone, 0}, 0, api.ErrForm},
		{[]int{gone, gone, gone, gone, gone, gone, 0, 0}, 0, api.OK},
		{[]int{8, 7, 6, 5, 4, 3, 0, 0}, 0, api.OK},
	} {
		if at, e := slots.Check(set(c.cells...)); at != c.cell || e != c.want {
			t.Errorf("%d: Check of %v: %d, %d", i, c.cells, at, e)
		}
	}
}

// P7.1: at most three quarters of the cells are not 0, be they gone or addresses, in tables of all sizes.
func TestCheckFull(t *testing.T) {
	for _, n := range sizes() {
		for _, k := range []int{0, 1, 3 * n / 8, 3*n/4 - 1, 3 * n / 4, 3*n/4 + 1, n - 1, n} {
			want := api.OK
			cell := 0
			if k > 3*n/4 {
				cell, want = -1, api.ErrFull
			}
			all := append(slices.Repeat([]int{gone}, k), make([]int, n-k)...)
			if at, e := slots.Check(set(all...)); at != cell || e != want {
				t.Errorf("%d of %d gone: %d, %d", k, n, at, e)
			}
			// As many addresses, one after the other, have different homes.
			cells := make([]int, n)
			for a := 1; a <= min(k, maxAddress); a++ {
				cells[a*40503%n] = a
			}
			for i := 0; i < n && notZero(cells) < k; i++ {
				if cells[i] == 0 {
					cells[i] = gone
				}
			}
			if at, e := slots.Check(set(cells...)); at != cell || e != want {
				t.Errorf("%d of %d used: %d, %d", k, n, at, e)
			}
		}
	}
}

// P7.1: an address has to be on its path: behind its home, where no cell before it is 0; after the last cell comes the first one.
func TestCheckPaths(t *testing.T) {
	for i, c := range []struct {
		cells []int
		cell  int
		want  api.Errno
	}{
		{[]int{0, 0, 0, 0, 0, 0, 0, 1}, 0, api.OK},
		{[]int{1, 0, 0, 0, 0, 0, 0, 0}, 0, api.ErrForm},
		{[]int{1, 0, 0, 0, 0, 0, 0, 9}, 0, api.OK},
		{[]int{1, 0, 0, 0, 0, 0, 0, gone}, 0, api.OK},
		{[]int{gone, 1, 0, 0, 0, 0, 0, 9}, 0, api.OK},
		{[]int{9, gone, 1, 0, 0, 0, 0, gone}, 0, api.OK},
		{[]int{0, 1, 0, 0, 0, 0, 0, 9}, 1, api.ErrForm},
		{[]int{9, 0, 1, 0, 0, 0, 0, gone}, 2, api.ErrForm},
		{[]int{0, 0, 0, 0, 0, 0, 1, 0}, 6, api.ErrForm},
		{[]int{gone, 0, 0, 0, 0, 0, 1, gone}, 6, api.ErrForm},
		{[]int{gone, gone, gone, gone, 0, 0, 1, gone}, 6, api.ErrForm},
		{[]int{8, 0, 3, 0, 0, 1, 0, 0}, 2, api.ErrForm},
		{[]int{8, 0, 0, 0, 4, 0, 1, 7}, 6, api.ErrForm},
		{[]int{8, 16, 24, 32, 40, 48, 0, 0}, 0, api.OK},
		{[]int{8, 16, 24, 0, 32, 40, 48, 0}, 4, api.ErrForm},
		{[]int{16, 8, 0, 0, 0, 0, 0, 0}, 0, api.OK},
	} {
		if at, e := slots.Check(set(c.cells...)); at != c.cell || e != c.want {
			t.Errorf("%d: Check of %v: %d, %d", i, c.cells, at, e)
		}
	}
}

// P7.1: in tables of all sizes, an address that is alone is good at its home, and nowhere else.
func TestCheckHomes(t *testing.T) {
	for _, n := range sizes() {
		for a := 1; a <= maxAddress; a += 13 {
			home := a * 40503 % n
			for _, i := range []int{home, 0, n - 1, (home + 1) % n, (home + n - 1) % n, n / 2} {
				cells := make([]int, n)
				cells[i] = a
				at, e := slots.Check(set(cells...))
				if i == home && (at != 0 || e != api.OK) || i != home && (at != i || e != api.ErrForm) {
					t.Errorf("%d at %d of %d: %d, %d", a, i, n, at, e)
				}
			}
		}
	}
}
