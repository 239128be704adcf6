package arena_test

import (
	"math"
	"slices"
	"testing"

	"shunter/api"
	"shunter/arena"
)

func play(v []uint64, l []api.ArOp) played {
	var p played
	p.v, p.got, p.count, p.at, p.e = arena.Play(v, l)
	return p
}

// The chapter's example of Play.
func TestPlayExample(t *testing.T) {
	got := play(w(), []api.ArOp{{Kind: api.ArSet, At: 1, Value: 9}, {Kind: api.ArCopy, At: 1, To: 4, N: 2}, {Kind: api.ArGet, At: 4}})
	want := played{v: []uint64{0, 9, 2, 3, 9, 2}, got: []uint64{9}, count: api.ArCount{Reads: 3, Writes: 3}}
	if !got.is(want) {
		t.Errorf("Play: %v", got)
	}
}

// P3.4: what one operation of each kind does, and how it counts.
func TestPlayOne(t *testing.T) {
	for i, c := range []struct {
		o    api.ArOp
		want played
	}{
		{api.ArOp{Kind: 1, At: 5}, played{v: w(), got: []uint64{5}, count: api.ArCount{Reads: 1}}},
		{api.ArOp{Kind: 2, At: 5, Value: 7}, played{v: []uint64{0, 1, 2, 3, 4, 7}, count: api.ArCount{Writes: 1}}},
		{api.ArOp{Kind: 2, At: 5, Value: 5}, played{v: w(), count: api.ArCount{Writes: 1}}},
		{api.ArOp{Kind: 3, At: 1, To: 4, N: 2}, played{v: []uint64{0, 1, 2, 3, 1, 2}, count: api.ArCount{Reads: 2, Writes: 2}}},
		{api.ArOp{Kind: 3, At: 1, To: 1, N: 5}, played{v: w(), count: api.ArCount{Reads: 5, Writes: 5}}},
		{api.ArOp{Kind: 3, At: 6, To: 6, N: 0}, played{v: w()}},
		{api.ArOp{Kind: 4, At: 2, N: 3}, played{v: []uint64{0, 1, 0, 0, 0, 5}, count: api.ArCount{Writes: 3}}},
		{api.ArOp{Kind: 4, At: 6, N: 0}, played{v: w()}},
	} {
		if got := play(w(), []api.ArOp{c.o}); !got.is(c.want) {
			t.Errorf("%d: Play: %v", i, got)
		}
	}
}

// P3.4: fields that a kind does not mention are not looked at.
func TestPlayOtherFields(t *testing.T) {
	for _, n := range edgeNumbers() {
		for i, c := range [][2]api.ArOp{
			{{Kind: api.ArGet, At: 2}, {Kind: api.ArGet, At: 2, To: n, N: n, Value: uint64(n)}},
			{{Kind: api.ArSet, At: 2, Value: 8}, {Kind: api.ArSet, At: 2, To: n, N: n, Value: 8}},
			{{Kind: api.ArCopy, At: 1, To: 3, N: 2}, {Kind: api.ArCopy, At: 1, To: 3, N: 2, Value: uint64(n)}},
			{{Kind: api.ArClear, At: 2, N: 2}, {Kind: api.ArClear, At: 2, To: n, N: 2, Value: uint64(n)}},
		} {
			got, want := play(w(), c[1:]), play(w(), c[:1])
			if !got.is(want) || got.e != api.OK {
				t.Errorf("%d: Play with %d in other fields: %v", i, n, got)
			}
		}
	}
}

// P3.4: a Kind that is none is ErrArg, whatever the other fields are, with its index.
func TestPlayKinds(t *testing.T) {
	good := api.ArOp{Kind: api.ArGet, At: 1}
	for _, kind := range []int{math.MinInt, -4, -1, 0, 5, 6, 1<<32 + 1, 1<<32 + 4, math.MaxInt} {
		for _, at := range []int{-1, 0, 1, 6} {
			bad := api.ArOp{Kind: kind, At: at, To: 1, N: 1}
			for i, l := range [][]api.ArOp{{bad, good}, {good, bad}, {good, good, bad, good}} {
				if got := play(w(), l); !got.is(played{at: i, e: api.ErrArg}) {
					t.Errorf("Play with the kind %d at %d: %v", kind, at, got)
				}
			}
		}
	}
}

// P3.4: operations on words that are not there are ErrRange, with the index of the first one that has an error.
func TestPlayRanges(t *testing.T) {
	for _, bad := range []api.ArOp{
		{Kind: api.ArGet},
		{Kind: api.ArGet, At: 6},
		{Kind: api.ArGet, At: -1},
		{Kind: api.ArSet, Value: 1},
		{Kind: api.ArSet, At: 6},
		{Kind: api.ArSet, At: math.MinInt},
		{Kind: api.ArCopy, At: 5, To: 1, N: 2},
		{Kind: api.ArCopy, At: 1, To: 5, N: 2},
		{Kind: api.ArCopy, At: 0, To: 1, N: 0},
		{Kind: api.ArCopy, At: 1, To: 2, N: -1},
		{Kind: api.ArCopy, At: 1, To: 2, N: math.MaxInt},
		{Kind: api.ArClear, At: 5, N: 2},
		{Kind: api.ArClear, At: 7},
		{Kind: api.ArClear, At: 1, N: math.MinInt},
		{Kind: api.ArClear, At: math.MaxInt, N: math.MaxInt},
	} {
		good, other := api.ArOp{Kind: api.ArSet, At: 1, Value: 9}, api.ArOp{}
		for i, l := range [][]api.ArOp{{bad, other}, {good, bad, other}, {good, good, bad, other}} {
			if got := play(w(), l); !got.is(played{at: i, e: api.ErrRange}) {
				t.Errorf("Play of %v: %v", l, got)
			}
		}
		if got := play(w(), []api.ArOp{other, bad}); !got.is(played{at: 0, e: api.ErrArg}) {
			t.Errorf("Play of a bad kind before %v: %v", bad, got)
		}
	}
}

// P3.4: up to 500 operations are played; with more of them Play does none, and returns -1, even if one has an error.
func TestPlayLong(t *testing.T) {
	for _, kind := range []int{api.ArGet, 0} {
		for _, n := range []int{501, 502, 5000} {
			l := slices.Repeat([]api.ArOp{{Kind: kind, At: 1}}, n)
			if got := play(w(), l); !got.is(played{at: -1, e: api.ErrLong}) {
				t.Errorf("Play of %d operations: %v", n, got)
			}
		}
	}
	for _, n := range []int{499, 500} {
		l := slices.Repeat([]api.ArOp{{Kind: api.ArGet, At: 3}}, n)
		want := played{v: w(), got: slices.Repeat([]uint64{3}, n), count: api.ArCount{Reads: n}}
		if got := play(w(), l); !got.is(want) {
			t.Errorf("Play of %d operations: %v", n, got)
		}
		l[n-1].Kind = 5
		if got := play(w(), l); !got.is(played{at: n - 1, e: api.ErrArg}) {
			t.Errorf("Play of %d operations with a bad one: %v", n, got)
		}
	}
}

// P3.4: the most that can be read and written is counted.
func TestPlayCountsMost(t *testing.T) {
	l := slices.Repeat([]api.ArOp{{Kind: api.ArCopy, At: 1, To: 1, N: 1600}}, 500)
	want := played{v: counted(1601), count: api.ArCount{Reads: 800000, Writes: 800000}}
	if got := play(counted(1601), l); !got.is(want) {
		t.Errorf("Play: %v", got.count)
	}
}

// P3.4, R4: with no operations, nil or empty, the arena stays, and nothing is read.
func TestPlayNone(t *testing.T) {
	for _, n := range lengths() {
		for _, l := range [][]api.ArOp{nil, {}} {
			if got := play(counted(n), l); !got.is(played{v: counted(n)}) {
				t.Errorf("Play of nothing with %d words: %v", n, got)
			}
		}
	}
}

// P3.4: in an arena without an address only what reads and writes no word is no error.
func TestPlayLeastArena(t *testing.T) {
	for _, o := range []api.ArOp{{Kind: api.ArGet, At: 1}, {Kind: api.ArSet, At: 1}, {Kind: api.ArCopy, At: 1, To: 1, N: 1}, {Kind: api.ArClear, At: 1, N: 1}} {
		if got := play([]uint64{0}, []api.ArOp{o}); !got.is(played{e: api.ErrRange}) {
			t.Errorf("Play of %v: %v", o, got)
		}
	}
	if got := play([]uint64{0}, []api.ArOp{{Kind: api.ArCopy, At: 1, To: 1}, {Kind: api.ArClear, At: 1}}); !got.is(played{v: []uint64{0}}) {
		t.Errorf("Play without words: %v", got)
	}
}

// P3.4: gets return what was there when they read it.
func TestPlayGetsInOrder(t *testing.T) {
	l := []api.ArOp{
		{Kind: api.ArGet, At: 5},
		{Kind: api.ArSet, At: 5, Value: 9},
		{Kind: api.ArGet, At: 5},
		{Kind: api.ArGet, At: 2},
		{Kind: api.ArCopy, At: 4, To: 1, N: 2},
		{Kind: api.ArGet, At: 2},
		{Kind: api.ArClear, At: 1, N: 2},
		{Kind: api.ArGet, At: 2},
	}
	want := played{v: []uint64{0, 0, 0, 3, 4, 9}, got: []uint64{5, 9, 2, 9, 0}, count: api.ArCount{Reads: 7, Writes: 5}}
	if got := play(w(), l); !got.is(want) {
		t.Errorf("Play: %v", got)
	}
}
