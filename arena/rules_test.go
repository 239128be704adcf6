package arena_test

import (
	"reflect"
	"slices"
	"testing"

	"shunter/api"
	"shunter/arena"
)

// results calls all functions with an arena, and collects what each returns, the error last.
func results(v []uint64, o api.ArOp) [][]any {
	x, e1 := arena.Get(v, o.At)
	set, e2 := arena.Set(v, o.At, o.Value)
	copied, e3 := arena.Copy(v, o.At, o.To, o.N)
	cleared, e4 := arena.Clear(v, o.At, o.N)
	after, got, count, at, e5 := arena.Play(v, []api.ArOp{o})
	zero, e6 := arena.Zero(v, o.At, o.To)
	same, e7 := arena.Differ(v, v)
	return [][]any{{x, e1}, {set, e2}, {copied, e3}, {cleared, e4}, {after, got, count, at, e5}, {zero, e6}, {same, e7}}
}

// isZero reports whether a result is zero; a list may be empty.
func isZero(x any) bool {
	v := reflect.ValueOf(x)
	return v.Kind() == reflect.Slice && v.Len() == 0 || v.Kind() != reflect.Slice && v.IsZero()
}

// zeroWith reports whether the results are this error, and zero values.
func zeroWith(l []any, e api.Errno) bool {
	for _, x := range l[:len(l)-1] {
		if !isZero(x) {
			return false
		}
	}
	return l[len(l)-1] == any(e)
}

// badArenas are lists that are no arenas, with the error of Check.
func badArenas() map[api.Errno][][]uint64 {
	return map[api.Errno][][]uint64{
		api.ErrLong: {nil, {}, counted(1602), make([]uint64, 4000)},
		api.ErrForm: {{1}, {7, 0, 0}, slices.Repeat([]uint64{1}, 1601)},
	}
}

// P3.1 to P3.5, R2: all functions with an arena return the error of Check before any other one, and zero values, also for the integer of Play.
func TestErrorsOfCheck(t *testing.T) {
	for want, l := range badArenas() {
		for _, v := range l {
			for _, o := range []api.ArOp{{Kind: 1, At: 1, To: 1}, {Kind: 2, At: 1}, {Kind: 3, At: 1, To: 1}, {}, {Kind: -1, At: -1, To: -1, N: -1}} {
				for i, r := range results(v, o) {
					if !zeroWith(r, want) {
						t.Errorf("%d words with %v: function %d: %v", len(v), o, i, r)
					}
				}
			}
			for _, n := range []int{0, 501} {
				if got := play(v, make([]api.ArOp, n)); !got.is(played{e: want}) {
					t.Errorf("Play of %d operations on %d words: %v", n, len(v), got)
				}
			}
		}
	}
}

// P3.5: Differ returns the error of Check for the first arena that has one.
func TestErrorsOfDiffer(t *testing.T) {
	long, form := counted(1602), []uint64{1, 2}
	for i, c := range []struct {
		v, w []uint64
		want api.Errno
	}{
		{long, w(), api.ErrLong},
		{w(), long, api.ErrLong},
		{form, w(), api.ErrForm},
		{w(), form, api.ErrForm},
		{long, form, api.ErrLong},
		{form, long, api.ErrForm},
		{long, long, api.ErrLong},
		{form, form, api.ErrForm},
		{nil, form, api.ErrLong},
		{form, nil, api.ErrForm},
		{nil, nil, api.ErrLong},
	} {
		if l, e := arena.Differ(c.v, c.w); len(l) != 0 || e != c.want {
			t.Errorf("%d: Differ: %v, %d", i, l, e)
		}
	}
}

// R1, R2, R6, P3.8: any numbers are accepted; with an error the rest is zero, but the integer of Play, which is then an index, here 0; the same arguments have the same results.
func TestAnyNumbers(t *testing.T) {
	r := dice()
	for range 20000 {
		v := anyArena(r)
		o := spoil(r, spoil(r, anyOp(r, len(v))))
		got := results(v, o)
		for i, l := range got {
			if e := l[len(l)-1].(api.Errno); e != api.OK && !zeroWith(l, e) || e != api.OK && e != api.ErrRange && (i != 4 || e != api.ErrArg) {
				t.Fatalf("%v with %v: function %d: %v", v, o, i, l)
			}
		}
		if !reflect.DeepEqual(got, results(v, o)) {
			t.Fatalf("%v with %v: results differ", v, o)
		}
	}
}

// R3, P3.8: arguments are not modified, nor what lies behind them in the same memory.
func TestArgumentsStay(t *testing.T) {
	r := dice()
	for range 5000 {
		memory := slices.Concat(anyArena(r), []uint64{11, 12, 13})
		v, before := memory[:len(memory)-3], slices.Clone(memory)
		good := anyGood(r, len(v), 1+r.Intn(5))
		ops := slices.Concat(good, []api.ArOp{{Kind: 9, At: 9}})
		l, beforeOps := ops[:len(good)], slices.Clone(ops)
		if len(l) > 0 {
			results(v, l[0])
		}
		play(v, l)
		arena.Differ(v, memory)
		arena.Check(v)
		if !slices.Equal(memory, before) || !slices.Equal(ops, beforeOps) {
			t.Fatalf("%v with %v: now %v with %v", before, beforeOps, memory, ops)
		}
	}
}

// lists returns the lists of words that calls without an error return for v, also where nothing changes.
func lists(v []uint64) map[string][]uint64 {
	set, _ := arena.Set(v, 1, v[1])
	copied, _ := arena.Copy(v, 1, 1, 0)
	cleared, _ := arena.Clear(v, len(v), 0)
	after, got, _, _, _ := arena.Play(v, []api.ArOp{{Kind: api.ArGet, At: 1}, {Kind: api.ArGet, At: 2}})
	none, _, _, _, _ := arena.Play(v, nil)
	return map[string][]uint64{"Set": set, "Copy": copied, "Clear": cleared, "Play": after, "Play's got": got, "Play of nothing": none}
}

// spoilAll changes a list to the end of its capacity.
func spoilAll(l []uint64) {
	l = l[:cap(l)]
	for i := range l {
		l[i] = 77
	}
}

// R3, P3.8: results are new memory: what is done with one shows neither in arguments, nor in others, nor in later calls.
func TestResultsAreNew(t *testing.T) {
	names := []string{"Set", "Copy", "Clear", "Play", "Play's got", "Play of nothing"}
	for _, name := range names {
		v := w()
		l, other := lists(v), lists(v)
		spoilAll(l[name])
		if !slices.Equal(v, w()) {
			t.Errorf("%s shares memory with its argument", name)
		}
		for _, n := range names {
			if n != name && !slices.Equal(l[n], lists(w())[n]) || !slices.Equal(other[n], lists(w())[n]) {
				t.Errorf("%s shares memory with %s", name, n)
			}
		}
	}
	for _, name := range names {
		v := w()
		l := lists(v)
		spoilAll(v)
		if !slices.Equal(l[name], lists(w())[name]) {
			t.Errorf("%s depends on its argument afterwards", name)
		}
	}
}

// R3: arenas of New, and lists of Differ, are new memory.
func TestNewAndDifferAreNew(t *testing.T) {
	c := api.Config{C: 8, N: 7, S: 4, K: 1, Q: 2}
	v, _ := arena.New(c)
	spoilAll(v)
	if again, e := arena.New(c); e != api.OK || !slices.Equal(again, make([]uint64, 61)) {
		t.Errorf("New after a change: %v, %d", again, e)
	}
	a, _ := arena.Differ(w(), make([]uint64, 6))
	b, _ := arena.Differ(w(), make([]uint64, 6))
	a[0], a[4] = 77, 77
	if !slices.Equal(b, []int{1, 2, 3, 4, 5}) {
		t.Errorf("Differ after a change: %v", b)
	}
}

// R4: an arena that is nil, or empty, is the same to all functions.
func TestNilIsEmpty(t *testing.T) {
	for _, o := range []api.ArOp{{}, {Kind: 1, At: 1, To: 1}} {
		if !reflect.DeepEqual(results(nil, o), results([]uint64{}, o)) {
			t.Errorf("with %v: %v; %v", o, results(nil, o), results([]uint64{}, o))
		}
	}
}
