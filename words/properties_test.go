package words_test

import (
	"math"
	"slices"
	"testing"

	"shunter/api"
	"shunter/words"
)

// P1.7: Split and Join undo each other.
func TestSplitOfJoin(t *testing.T) {
	r := dice()
	for range 3000 {
		l := anyFields(r, 0, 64)
		line, e := words.Join(l)
		if e != api.OK {
			t.Fatalf("Join(%v): %d", l, e)
		}
		if got, e := words.Split(line); !slices.Equal(got, l) || e != api.OK {
			t.Fatalf("Split of Join(%v): %v, %d", l, got, e)
		}
	}
	for range 100000 {
		line := anyString(r, 12)
		if l, e := words.Split(line); e == api.OK {
			if got, e := words.Join(l); got != line || e != api.OK {
				t.Fatalf("Join of Split(%q): %q, %d", line, got, e)
			}
		}
	}
}

// P1.7: Unquote and Quote undo each other.
func TestUnquoteOfQuote(t *testing.T) {
	r := dice()
	for range 20000 {
		s := anyString(r, 40)
		if got, e := words.Unquote(words.Quote(s)); got != s || e != api.OK {
			t.Fatalf("Unquote of Quote(%q): %q, %d", s, got, e)
		}
	}
	for range 100000 {
		s := `"` + anyString(r, 8) + `"`
		if text, e := words.Unquote(s); e == api.OK && words.Quote(text) != s {
			t.Fatalf("Quote of Unquote(%q): %q", s, words.Quote(text))
		}
	}
}

// P1.7: List and ParseList undo each other.
func TestParseListOfList(t *testing.T) {
	r := dice()
	for range 5000 {
		l := anyList(r, 500)
		s, e := words.List(l)
		if e != api.OK {
			t.Fatalf("List(%v): %d", l, e)
		}
		got, e := words.ParseList(s)
		if !slices.Equal(got, l) || e != api.OK {
			t.Fatalf("ParseList of List(%v): %v, %d", l, got, e)
		}
	}
	each("0189-,", 6, func(s string) {
		if l, e := words.ParseList(s); e == api.OK {
			if got, e := words.List(l); got != s || e != api.OK {
				t.Errorf("List of ParseList(%q): %q, %d", s, got, e)
			}
		}
	})
}

// P1.7: Int and Digits undo each other.
func TestIntOfDigits(t *testing.T) {
	r := dice()
	l := []int64{0, 1, -1, 9, 10, -9, -10, math.MaxInt64, math.MinInt64, math.MaxInt64 - 1, math.MinInt64 + 1}
	for range 5000 {
		l = append(l, int64(r.Uint64())>>r.Intn(64))
	}
	for _, n := range l {
		s := words.Digits(n)
		if got, e := words.Int(s, math.MinInt64, math.MaxInt64); got != n || e != api.OK {
			t.Errorf("Int of Digits(%d): %d, %d", n, got, e)
		}
		if got, e := words.Int(s, n, n); got != n || e != api.OK {
			t.Errorf("Int of Digits(%d) in a range of one: %d, %d", n, got, e)
		}
	}
	each("0189-", 5, func(s string) {
		if n, e := words.Int(s, math.MinInt64, math.MaxInt64); e == api.OK && words.Digits(n) != s {
			t.Errorf("Digits of Int(%q): %q", s, words.Digits(n))
		}
	})
}

// P1.8: two lines with a space between them are the line of both lists.
func TestJoinTwo(t *testing.T) {
	r := dice()
	for range 5000 {
		a, b := anyFields(r, 1, 32), anyFields(r, 1, 32)
		s, e := words.Join(a)
		u, f := words.Join(b)
		both, g := words.Join(slices.Concat(a, b))
		if e != api.OK || f != api.OK || g != api.OK || s+" "+u != both {
			t.Fatalf("Join(%v), Join(%v): %q, %q; both: %q", a, b, s, u, both)
		}
		if got, e := words.Split(s + " " + u); !slices.Equal(got, slices.Concat(a, b)) || e != api.OK {
			t.Fatalf("Split(%q): %v, %d", s+" "+u, got, e)
		}
	}
}
