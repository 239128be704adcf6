package words

import (
	"iter"
	"strings"

	"shunter/api"
)

// noNumbers is the expression of the empty list.
const noNumbers = "-"

// run is the decimal forms of the first and the last one of consecutive integers.
type run struct{ first, last string }

// List returns the list expression of a strictly ascending list.
func List(l []int) (string, api.Errno) {
	if len(l) > api.MaxListed {
		return "", api.ErrLong
	}
	for _, n := range l {
		if n < 0 || n > api.MaxNumber {
			return "", api.ErrRange
		}
	}
	for i := 1; i < len(l); i++ {
		if l[i-1] >= l[i] {
			return "", api.ErrForm
		}
	}
	if len(l) == 0 {
		return noNumbers, api.OK
	}
	return listed(l), api.OK
}

// ParseList returns the list whose expression is s.
func ParseList(s string) ([]int, api.Errno) {
	if s == noNumbers {
		return nil, api.OK
	}
	greatest, ok := ascending(s)
	if !ok {
		return nil, api.ErrForm
	}
	if _, e := Int(greatest, 0, api.MaxNumber); e != api.OK {
		return nil, api.ErrRange
	}
	var l []int
	for r := range runs(s) {
		first, _ := Int(r.first, 0, api.MaxNumber)
		last, _ := Int(r.last, 0, api.MaxNumber)
		for n := first; n <= last; n++ {
			if len(l) == api.MaxListed {
				return nil, api.ErrLong
			}
			l = append(l, int(n))
		}
	}
	return l, api.OK
}

// listed writes the runs of a strictly ascending list that is not empty.
func listed(l []int) string {
	var b []byte
	for len(l) > 0 {
		n := runLength(l)
		if len(b) > 0 {
			b = append(b, ',')
		}
		b = append(b, Digits(int64(l[0]))...)
		if n > 1 {
			b = append(b, '-')
			b = append(b, Digits(int64(l[n-1]))...)
		}
		l = l[n:]
	}
	return string(b)
}

// runLength returns how many consecutive integers l, which is not empty, begins with.
func runLength(l []int) int {
	n := 1
	for n < len(l) && l[n] == l[n-1]+1 {
		n++
	}
	return n
}

// ascending reports whether s is the maximal runs of a list of integers of any size, and returns its greatest one. It works on digits, as the form is judged before the size.
func ascending(s string) (greatest string, ok bool) {
	gap := "" // The next run must lie above this: the integer after a run would have belonged to it.
	for r, well := range runs(s) {
		if !well || compare(r.first, gap) <= 0 {
			return "", false
		}
		greatest, gap = r.last, successor(r.last)
	}
	return greatest, true
}

// runs yields what is between the commas, and whether it is written as a run of integers is.
func runs(s string) iter.Seq2[run, bool] {
	return func(yield func(run, bool) bool) {
		for part := range strings.SplitSeq(s, ",") {
			if !yield(readRun(part)) {
				return
			}
		}
	}
}

func readRun(s string) (r run, ok bool) {
	first, last, longer := strings.Cut(s, "-")
	if !longer {
		return run{s, s}, natural(s)
	}
	return run{first, last}, natural(first) && natural(last) && compare(first, last) < 0
}
