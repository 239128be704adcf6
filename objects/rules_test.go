package objects_test

import (
	"reflect"
	"slices"
	"testing"

	"shunter/api"
	"shunter/objects"
)

// badArenas are lists that are no arenas, with the error of arena.Check; but for that they would have objects.
func badArenas() map[api.Errno][][]uint64 {
	return map[api.Errno][][]uint64{
		api.ErrLong: {nil, {}, filled(1602, 3, api.Shape{P: 2, R: 1}), with(filled(1602, 3, api.Shape{P: 2}), 0, 1), make([]uint64, 4000)},
		api.ErrForm: {{1}, with(example(), 0, 1), with(example(), 0, 1<<63), slices.Repeat([]uint64{1}, 1601)},
	}
}

// P5.1 to P5.5, R2: all functions return the error of arena.Check before any other one.
func TestErrorsOfArena(t *testing.T) {
	for want, l := range badArenas() {
		for _, w := range l {
			for _, c := range []call{
				{w: w, a: 3, b: 3, s: api.Shape{P: 1}},
				{w: w, a: 3, b: 3, field: 9, to: 9999, s: api.Shape{P: 64}},
				{w: w, a: 0, b: -1, field: -1, to: -1, s: api.Shape{P: -1}},
				{w: w, a: 5000, b: 1, field: 1, to: 1, s: api.Shape{}},
			} {
				if got := results(c); !reflect.DeepEqual(got, zero(slices.Repeat([]api.Errno{want}, 10)...)) {
					t.Errorf("%d words at %d: %v", len(w), c.a, got)
				}
			}
		}
	}
}

// P5.2 to P5.5: all functions but Make return ErrRange for what is no address, before they look at fields.
func TestNoAddress(t *testing.T) {
	for _, n := range []int{1, 2, 10, 1601} {
		w := slices.Repeat([]uint64{1}, n)
		w[0] = 0
		for _, a := range append(edgeNumbers(), n-1, n, n+1) {
			if a >= 1 && a < n {
				continue
			}
			for _, c := range []call{{w: w, a: a, b: a, s: api.Shape{P: -1}}, {w: w, a: a, b: 1, field: -1, to: -1, s: api.Shape{P: -1}}} {
				if got := results(c); !reflect.DeepEqual(got, zero(slices.Repeat([]api.Errno{api.ErrRange}, 10)...)) {
					t.Errorf("%d words at %d: %v", n, a, got)
				}
			}
		}
	}
}

// P5.2 to P5.5: all functions but Make return ErrForm where there is no object: no header, also not a mark, or a header of more words than there are.
func TestNoObject(t *testing.T) {
	var arenas [][]uint64
	for _, v := range []uint64{0, 2, 3, 256, 1282, 2 + 256*1600, 66048, 66051, 16777217, 1 + 40<<8 + 24<<16, 1<<32 + 1, 1<<63 + 1, 1<<64 - 1} {
		arenas = append(arenas, with(numbered(100), 5, v))
	}
	for _, s := range shapes() {
		if n := 1 + s.P + s.R; n > 1 {
			arenas = append(arenas, with(numbered(5+n-1), 5, headerOf(s)), with(numbered(6), 5, headerOf(s)))
		}
	}
	for _, w := range arenas {
		for _, c := range []call{{w: w, a: 5, b: 5, s: api.Shape{P: 64}}, {w: w, a: 5, b: 0, field: -1, to: -1, s: api.Shape{P: 64}}} {
			errors := slices.Repeat([]api.Errno{api.ErrForm}, 10)
			errors[0] = api.ErrTooLarge
			if got := results(c); !reflect.DeepEqual(got, zero(errors...)) {
				t.Errorf("%d words with %d at 5: %v", len(w), w[5], got)
			}
		}
	}
}

// P5.5: Alike returns the error for the first object before that for the second one, whatever they are.
func TestErrorsOfAlike(t *testing.T) {
	w := example()
	for i, c := range []struct {
		a, b int
		want api.Errno
	}{
		{3, 3, api.OK},
		{3, 0, api.ErrRange},
		{3, 10, api.ErrRange},
		{3, 4, api.ErrForm},
		{0, 3, api.ErrRange},
		{10, 3, api.ErrRange},
		{4, 3, api.ErrForm},
		{0, 4, api.ErrRange},
		{4, 0, api.ErrForm},
		{4, 10, api.ErrForm},
		{-1, 4, api.ErrRange},
		{4, 4, api.ErrForm},
	} {
		if is, e := objects.Alike(w, c.a, c.b); is != (c.want == api.OK) || e != c.want {
			t.Errorf("%d: Alike(W, %d, %d): %v, %d", i, c.a, c.b, is, e)
		}
	}
}

// P5.8, R1, R6: any numbers are accepted; the same arguments have the same results.
func TestAnyNumbers(t *testing.T) {
	r := dice()
	for range 20000 {
		c := anyCall(r, anyArena(r))
		for _, p := range []*int{&c.a, &c.b, &c.field, &c.to, &c.s.P, &c.s.R} {
			if r.Intn(2) == 0 {
				*p = int(r.Uint64())
			}
		}
		if got, want := results(c), expected(c); !reflect.DeepEqual(got, want) || !reflect.DeepEqual(results(c), want) {
			t.Fatalf("%+v: %v; want %v", c, got, want)
		}
	}
}

// P5.8, R3: arguments are not modified, nor what lies behind them in the same memory.
func TestArgumentsStay(t *testing.T) {
	r := dice()
	for range 5000 {
		memory := slices.Concat(anyArena(r), []uint64{11, 12, 13})
		before := slices.Clone(memory)
		for range 5 {
			results(anyCall(r, memory[:len(memory)-3]))
		}
		if !slices.Equal(memory, before) {
			t.Fatalf("%v is now %v", before, memory)
		}
	}
}

// P5.8, R3: an object does not go on behind the arena, though there may be words in the same memory.
func TestWordsBehind(t *testing.T) {
	memory := filled(20, 5, api.Shape{P: 2, R: 2})
	for n := 6; n < 10; n++ {
		c := call{w: memory[:n], a: 5, b: 5, s: api.Shape{P: 2, R: 2}}
		errors := slices.Repeat([]api.Errno{api.ErrForm}, 10)
		errors[0] = api.ErrRange
		if got := results(c); !reflect.DeepEqual(got, zero(errors...)) {
			t.Errorf("%d words: %v", n, got)
		}
	}
}

// good is a call in which all functions have no error, and no list is empty.
func good() call {
	return call{w: example(), a: 3, b: 3, to: 7, s: api.Shape{P: 2, R: 1}, v: 99}
}

// spoilAll changes the first result to the end of its capacity.
func spoilAll(l []any) {
	switch l := l[0].(type) {
	case []uint64:
		l = l[:cap(l)]
		for i := range l {
			l[i] = 77
		}
	case []int:
		l = l[:cap(l)]
		for i := range l {
			l[i] = 77
		}
	}
}

// P5.8, R3: results are new memory, also where nothing changes: what is done with one shows neither in arguments, nor in others, nor in later calls.
func TestResultsAreNew(t *testing.T) {
	want := expected(good())
	for i, name := range names() {
		c := good()
		got, other := results(c), results(c)
		spoilAll(got[i])
		if !slices.Equal(c.w, example()) {
			t.Errorf("%s shares memory with its argument", name)
		}
		for j := range got {
			if i != j && !reflect.DeepEqual(got[j], want[j]) {
				t.Errorf("%s shares memory with %s", name, names()[j])
			}
		}
		if !reflect.DeepEqual(other, want) || !reflect.DeepEqual(results(c), want) {
			t.Errorf("%s shares memory with another call", name)
		}
	}
	c := good()
	got := results(c)
	spoilAll([]any{c.w})
	if !reflect.DeepEqual(got, want) {
		t.Errorf("results depend on the arena afterwards: %v; want %v", got, want)
	}
}

// R4: an arena that is nil, or empty, is the same to all functions.
func TestNilIsEmpty(t *testing.T) {
	for _, c := range []call{{}, {a: 1, b: 1, s: api.Shape{P: 1}}} {
		d := c
		d.w = []uint64{}
		if !reflect.DeepEqual(results(c), results(d)) {
			t.Errorf("%v; %v", results(c), results(d))
		}
	}
}
