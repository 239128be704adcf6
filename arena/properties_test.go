package arena_test

import (
	"slices"
	"testing"

	"shunter/api"
	"shunter/arena"
)

// P3.6, P3.4: after operations each word, and what gets read, is what was written there last.
func TestLastWrite(t *testing.T) {
	r := dice()
	for range 5000 {
		v := anyArena(r)
		l := anyGood(r, len(v), r.Intn(40))
		if got, want := play(v, l), expected(v, l); !got.is(want) || got.e != api.OK {
			t.Fatalf("Play(%v, %v): %v; want %v", v, l, got, want)
		}
	}
}

// P3.4, P3.8: operations of any numbers are played up to the first one that has an error.
func TestFirstError(t *testing.T) {
	r := dice()
	for range 20000 {
		v := anyArena(r)
		l := anyGood(r, len(v), r.Intn(10))
		for range r.Intn(3) {
			if len(l) > 0 {
				i := r.Intn(len(l))
				l[i] = spoil(r, l[i])
			}
		}
		if got, want := play(v, l), expected(v, l); !got.is(want) {
			t.Fatalf("Play(%v, %v): %v; want %v", v, l, got, want)
		}
	}
}

// P3.7: operations in two parts are those at once: the arena, what is read, and the counts, which add up; so is the error of the second part, further on.
func TestPlaysInParts(t *testing.T) {
	r := dice()
	for i := range 5000 {
		v := anyArena(r)
		l := anyGood(r, len(v), r.Intn(30))
		cut := r.Intn(len(l) + 1)
		if i%3 == 0 && cut < len(l) {
			j := cut + r.Intn(len(l)-cut)
			l[j] = spoil(r, l[j])
		}
		whole, first := play(v, l), play(v, l[:cut])
		second := play(first.v, l[cut:])
		if second.e != api.OK {
			second.at += cut
		} else {
			second.got = slices.Concat(first.got, second.got)
			second.count.Reads += first.count.Reads
			second.count.Writes += first.count.Writes
		}
		if first.e != api.OK || !second.is(whole) {
			t.Fatalf("Play(%v, %v): %v; in two parts %v", v, l, whole, second)
		}
	}
}

// P3.8: an operation changes only words that it writes.
func TestOnlyWhatIsWritten(t *testing.T) {
	r := dice()
	for range 5000 {
		v := anyArena(r)
		for _, o := range anyGood(r, len(v), 3) {
			got := play(v, []api.ArOp{o})
			l, e := arena.Differ(v, got.v)
			if e != api.OK {
				t.Fatalf("Play(%v, %v): %v", v, o, got)
			}
			to, n := writes(o)
			for _, a := range l {
				if a < to || a >= to+n {
					t.Fatalf("Play(%v, %v) changes the word %d", v, o, a)
				}
			}
		}
	}
}

// P3.2 to P3.4: Get, Set, Copy and Clear are plays of one operation, and have its error.
func TestFunctionsArePlays(t *testing.T) {
	r := dice()
	for range 20000 {
		v := anyArena(r)
		o := spoil(r, anyOp(r, len(v)))
		o.Kind = 1 + r.Intn(4)
		want := play(v, []api.ArOp{o})
		var got played
		switch o.Kind {
		case api.ArGet:
			x, e := arena.Get(v, o.At)
			if e == api.OK {
				got.v, got.got = v, []uint64{x}
			}
			got.e = e
		case api.ArSet:
			got.v, got.e = arena.Set(v, o.At, o.Value)
		case api.ArCopy:
			got.v, got.e = arena.Copy(v, o.At, o.To, o.N)
		case api.ArClear:
			got.v, got.e = arena.Clear(v, o.At, o.N)
		}
		want.count = api.ArCount{}
		if !got.is(want) {
			t.Fatalf("%v with %v: %v; Play: %v", v, o, got, want)
		}
	}
}
