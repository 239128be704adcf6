package walk_test

import (
	"reflect"
	"slices"
	"testing"

	"shunter/api"
	"shunter/walk"
)

// P6.1 to P6.5, R2: all functions return the error of arena.Check before any other one; Check returns 0 with it.
func TestErrorsOfArena(t *testing.T) {
	long := slices.Repeat([]uint64{1}, 1602)
	long[0] = 0
	for want, arenas := range map[api.Errno][][]uint64{
		api.ErrLong: {nil, {}, long, slices.Repeat([]uint64{1}, 1602), make([]uint64, 4000)},
		api.ErrForm: {{1}, {1, 1}, with(example(), 0, 1), with(example(), 0, 1<<63), slices.Repeat([]uint64{1}, 1601)},
	} {
		for _, w := range arenas {
			for _, c := range []call{
				{w: w, from: 1, top: 1, a: 1, high: 9},
				{w: w, from: 1, top: 8, a: 3, high: 9, l: []api.Shape{{}}},
				{w: w, from: 0, top: 9000, a: -1, l: []api.Shape{{P: -1}}},
				{w: w, from: 2, top: 1, l: []api.Shape{{P: 64}}},
			} {
				if got := results(c); !reflect.DeepEqual(got, zero(want, want)) {
					t.Errorf("%d words from %d to %d: %v", len(w), c.from, c.top, got)
				}
			}
		}
	}
}

// P6.1 to P6.5: all functions return ErrRange if from and top are not those of a stretch, before they look at words; Check returns 0 with it.
func TestNoStretch(t *testing.T) {
	for _, n := range []int{1, 2, 12, 1601} {
		for i, w := range [][]uint64{slices.Repeat([]uint64{1}, n), make([]uint64, n)} {
			w[0] = 0
			numbers := append(edgeNumbers(), n-1, n, n+1)
			for _, from := range numbers {
				for _, top := range numbers {
					is := from >= 1 && top >= from && top <= n
					at, e := walk.Check(w, from, top)
					if i == 0 && is && (at != 0 || e != api.OK) || !is && (at != 0 || e != api.ErrRange) {
						t.Errorf("%d words from %d to %d: %d, %d", n, from, top, at, e)
					}
					c := call{w: w, from: from, top: top, a: from, high: 9, l: []api.Shape{{P: 64}}}
					if got := results(c); !is && !reflect.DeepEqual(got, zero(api.ErrRange, api.ErrRange)) {
						t.Errorf("%d words from %d to %d: %v", n, from, top, got)
					}
				}
			}
		}
	}
}

// P6.2 to P6.4: all functions but Fill return the error of Check, also if the gap comes behind all that they ask for, or behind a pointer word that holds no address.
func TestErrorsOfCheck(t *testing.T) {
	for _, w := range [][]uint64{example(), with(example(), 2, 1601), with(example(), 8, 257)} {
		c := call{w: w, from: 1, top: 9, a: 3, high: 9}
		want := zero(api.ErrForm, api.OK)
		want[0][0] = 8
		want[7] = []any{w, 1, api.OK}
		if got := results(c); !reflect.DeepEqual(got, want) {
			t.Errorf("%v: %v; want %v", w, got, want)
		}
	}
}

// P6.8, R1, R6: any numbers are accepted; the same arguments have the same results.
func TestAnyNumbers(t *testing.T) {
	r := dice()
	for range 20000 {
		c := anyCall(r)
		for _, p := range []*int{&c.from, &c.top, &c.a, &c.low, &c.high} {
			if r.Intn(2) == 0 {
				*p = int(r.Uint64())
			}
		}
		c.w[r.Intn(len(c.w))] = r.Uint64()
		c.l = append(c.l, api.Shape{P: int(r.Uint64()), R: int(r.Uint64())})
		if got, want := results(c), expected(c); !reflect.DeepEqual(got, want) || !reflect.DeepEqual(results(c), want) {
			t.Fatalf("%+v: %v; want %v", c, got, want)
		}
	}
}

// P6.8, R3: arguments are not modified, nor what lies behind them in the same memory.
func TestArgumentsStay(t *testing.T) {
	r := dice()
	for range 5000 {
		c := anyCall(r)
		words := slices.Concat(c.w, []uint64{1, 257, 513})
		shapes := slices.Concat(c.l, []api.Shape{{P: 1}, {R: 1}})
		words2, shapes2 := slices.Clone(words), slices.Clone(shapes)
		c.w, c.l = words[:len(c.w)], shapes[:len(c.l)]
		results(c)
		if !slices.Equal(words, words2) || !slices.Equal(shapes, shapes2) {
			t.Fatalf("%v, %v are now %v, %v", words2, shapes2, words, shapes)
		}
	}
}

// P6.1, R3: a stretch does not go on behind the arena, though there may be words in the same memory.
func TestWordsBehind(t *testing.T) {
	memory := slices.Repeat([]uint64{1}, 20)
	memory[0], memory[8] = 0, 513
	for n := 9; n < 11; n++ {
		c := call{w: memory[:n], from: 1, top: n, a: 1}
		want := zero(api.ErrForm, api.OK)
		want[0][0] = 8
		want[7] = []any{memory[:n], 1, api.OK}
		if got := results(c); !reflect.DeepEqual(got, want) {
			t.Errorf("%d words: %v; want %v", n, got, want)
		}
		c.top = n + 1
		if got := results(c); !reflect.DeepEqual(got, zero(api.ErrRange, api.ErrRange)) {
			t.Errorf("%d words: %v", n, got)
		}
	}
}

// spoilAll changes the first result to the end of its capacity.
func spoilAll(l []any) {
	switch l := l[0].(type) {
	case []uint64:
		overwrite(l, 77)
	case []int:
		overwrite(l, 77)
	case []api.WkRef:
		overwrite(l, api.WkRef{Slot: 77, To: 77})
	}
}

// overwrite makes all of a list, to the end of its capacity, one value.
func overwrite[T any](l []T, v T) {
	l = l[:cap(l)]
	for i := range l {
		l[i] = v
	}
}

// good are calls in which all functions have no error, and no list is empty but that of shapes, in the second one.
func good() []call {
	c := call{w: example(), from: 1, top: 8, a: 3, low: 1, high: 9}
	d := c
	d.w, d.l = example(), exampleShapes()
	return []call{d, c}
}

// P6.8, R3: results are new memory, also where nothing changes: what is done with one shows neither in arguments, nor in others, nor in later calls.
func TestResultsAreNew(t *testing.T) {
	for k := range good() {
		want := expected(good()[k])
		for i, name := range names() {
			c := good()[k]
			got, other := results(c), results(c)
			spoilAll(got[i])
			if !reflect.DeepEqual(c, good()[k]) {
				t.Errorf("%s shares memory with its arguments", name)
			}
			for j := range got {
				if i != j && !reflect.DeepEqual(got[j], want[j]) {
					t.Errorf("%s shares memory with %s", name, names()[j])
				}
			}
			if !reflect.DeepEqual(other, want) || !reflect.DeepEqual(results(c), want) {
				t.Errorf("%s shares memory with another call", name)
			}
		}
		c := good()[k]
		got := results(c)
		overwrite(c.w, 77)
		overwrite(c.l, api.Shape{P: 7})
		if !reflect.DeepEqual(got, want) {
			t.Errorf("results depend on arguments afterwards: %v; want %v", got, want)
		}
	}
}

// R4: an arena, or a list of shapes, that is nil, or empty, is the same to all functions.
func TestNilIsEmpty(t *testing.T) {
	for _, c := range []call{{}, {from: 1, top: 1}, {w: []uint64{0}, from: 1, top: 1}, {w: example(), from: 1, top: 8}} {
		d := c
		d.l = []api.Shape{}
		if len(c.w) == 0 {
			d.w = []uint64{}
		}
		if !reflect.DeepEqual(results(c), results(d)) {
			t.Errorf("%v; %v", results(c), results(d))
		}
	}
}
