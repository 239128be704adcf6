package walk_test

import (
	"reflect"
	"slices"
	"testing"

	"shunter/api"
	"shunter/walk"
)

// The shapes of the objects of the example, which lie from 1 to 8.
func exampleShapes() []api.Shape { return []api.Shape{{P: 1, R: 1}, {}, {P: 2}} }

// P6.1: a stretch that is filled has no error, wherever it lies in its arena, and whatever is around it; its last object ends just before top.
func TestFilled(t *testing.T) {
	for _, l := range [][]api.Shape{nil, {{}}, {{P: 63}}, {{R: 63}}, {{P: 40, R: 23}}, exampleShapes(), {{}, {}, {}, {R: 1}}, {{P: 63}, {}, {R: 63}, {P: 1}}} {
		for from := 1; from < 4; from++ {
			for behind := range 3 {
				top := from + sizeOf(l...)
				w := with(numbered(top+behind), from, lain(1, l...)...)
				if at, e := walk.Check(w, from, top); at != 0 || e != api.OK {
					t.Errorf("%v from %d: %d, %d", l, from, at, e)
				}
			}
		}
	}
}

// P6.1, P6.2 to P6.4: an empty stretch is filled, at each address, also behind the last word; nothing is in it.
func TestEmpty(t *testing.T) {
	for _, n := range []int{1, 2, 12, maxWords} {
		for from := 1; from <= n; from++ {
			w := numbered(n)
			c := call{w: w, from: from, top: from, a: from, low: 0, high: 2000}
			want := zero(api.OK, api.OK)
			want[2][1] = api.ErrNone
			want[7] = []any{w, from, api.OK}
			if got := results(c); !reflect.DeepEqual(got, want) {
				t.Errorf("%d words, from %d: %v; want %v", n, from, got, want)
			}
		}
	}
}

// P6.1: where the first object is missing: where there is no header, in each place, or an object goes beyond top, also if its words are there.
func TestGaps(t *testing.T) {
	l := []api.Shape{{P: 1}, {}, {P: 2, R: 2}, {R: 1}, {P: 3}}
	w := with(numbered(30), 3, lain(1, l...)...)
	top := 3 + sizeOf(l...)
	for i := range l {
		a := 3 + sizeOf(l[:i]...)
		for _, v := range badHeaders() {
			if at, e := walk.Check(with(w, a, v), 3, top); at != a || e != api.ErrForm {
				t.Errorf("%d at %d: %d, %d", v, a, at, e)
			}
		}
		for cut := a + 1; cut < a+sizeOf(l[i]); cut++ {
			at, e := walk.Check(w, 3, cut)
			at2, e2 := walk.Check(w[:cut], 3, cut)
			if at != a || e != api.ErrForm || at2 != a || e2 != api.ErrForm {
				t.Errorf("up to %d: %d, %d; with no words behind: %d, %d", cut, at, e, at2, e2)
			}
		}
		if at, e := walk.Check(with(w, a, 1+63<<8), 3, top); at != a || e != api.ErrForm {
			t.Errorf("64 words at %d: %d, %d", a, at, e)
		}
	}
	if at, e := walk.Check(with(w, 5, 0, 0), 3, top); at != 5 || e != api.ErrForm {
		t.Errorf("two gaps: %d, %d", at, e)
	}
	if at, e := walk.Check(w, 3, top+1); at != top || e != api.ErrForm {
		t.Errorf("a word more: %d, %d", at, e)
	}
}

// P6.1: words that are no headers are found only where there has to be an object: a walk does not look at fields.
func TestGapsInFields(t *testing.T) {
	s := api.Shape{P: 3, R: 3}
	w := with(numbered(20), 2, lain(1, s, s)...)
	for i := range 6 {
		for _, v := range append(badHeaders(), headerOf(s)) {
			if at, e := walk.Check(with(w, 3+i, v), 2, 16); at != 0 || e != api.OK {
				t.Errorf("%d in the field %d: %d, %d", v, i, at, e)
			}
		}
	}
}

// P6.2: Objects are all addresses of objects; Find is the object of each word, in all stretches of the arena.
func TestObjectsAndFind(t *testing.T) {
	l := []api.Shape{{P: 1}, {}, {}, {P: 2, R: 2}, {R: 1}, {P: 63}, {R: 63}, {P: 3}}
	for from := 1; from < 4; from++ {
		top := from + sizeOf(l...)
		w := with(numbered(top+2), from, lain(1, l...)...)
		var want []int
		for i, s := range l {
			a := from + sizeOf(l[:i]...)
			want = append(want, a)
			for word := a; word < a+sizeOf(s); word++ {
				if object, e := walk.Find(w, from, top, word); object != a || e != api.OK {
					t.Errorf("Find of %d: %d, %d; want %d", word, object, e, a)
				}
			}
		}
		if got, e := walk.Objects(w, from, top); !slices.Equal(got, want) || e != api.OK {
			t.Errorf("Objects from %d: %v, %d; want %v", from, got, e, want)
		}
	}
}

// P6.2: Find returns ErrNone for what is not in the stretch, be it an address of the arena or not; but first the error of Check, also if the object of the word is there.
func TestFindNone(t *testing.T) {
	w := with(numbered(20), 3, lain(1, exampleShapes()...)...)
	for _, a := range append(edgeNumbers(), 10, 19, 20, 21) {
		object, e := walk.Find(w, 3, 10, a)
		if in := a >= 3 && a < 10; in != (e == api.OK) || !in && (object != 0 || e != api.ErrNone) {
			t.Errorf("Find of %d: %d, %d", a, object, e)
		}
		if object, e := walk.Find(w, 3, 11, a); object != 0 || e != api.ErrForm {
			t.Errorf("Find of %d up to 11: %d, %d", a, object, e)
		}
		if object, e := walk.Find(w, 3, 2, a); object != 0 || e != api.ErrRange {
			t.Errorf("Find of %d up to 2: %d, %d", a, object, e)
		}
	}
}

// P6.3: Slots and Refs have all pointer fields, no raw field, and what they hold, also nil, twice the same, and addresses outside of the stretch and of the arena.
func TestSlotsAndRefs(t *testing.T) {
	w := []uint64{0, 7, 9, 65793, 4, 3, 513, 0, 4, 1, 131329, 1600, 5000, 1, 257, 1599, 65537, 1601, 8}
	slots, e := walk.Slots(w, 3, 18)
	refs, f := walk.Refs(w, 3, 18)
	if !slices.Equal(slots, []int{4, 7, 8, 11, 15}) || e != api.OK {
		t.Errorf("Slots: %v, %d", slots, e)
	}
	if !slices.Equal(refs, []api.WkRef{{Slot: 4, To: 4}, {Slot: 7}, {Slot: 8, To: 4}, {Slot: 11, To: 1600}, {Slot: 15, To: 1599}}) || f != api.OK {
		t.Errorf("Refs: %v, %d", refs, f)
	}
	refs, f = walk.Refs(w, 10, 14)
	if !slices.Equal(refs, []api.WkRef{{Slot: 11, To: 1600}}) || f != api.OK {
		t.Errorf("Refs from 10 to 14: %v, %d", refs, f)
	}
}

// P6.3: Refs and Into return ErrForm if any pointer word holds no address; raw fields and words outside of the stretch may hold anything, and other functions do not look.
func TestNoAddress(t *testing.T) {
	w := with(numbered(24), 2, lain(1, api.Shape{P: 2, R: 2}, api.Shape{}, api.Shape{P: 1}, api.Shape{P: 2, R: 1})...)
	for _, v := range []uint64{1601, 1602, 2048, 1 << 31, 1 << 32, 1<<32 + 1, 1 << 63, 1<<64 - 1} {
		for a := 1; a < 24; a++ {
			if slices.Contains([]int{2, 7, 8, 10}, a) {
				continue
			}
			c := call{w: with(w, a, v), from: 2, top: 14, a: a, low: 1, high: 1600}
			isPointer := slices.Contains([]int{3, 4, 9, 11, 12}, a)
			got := results(c)
			for i, name := range names()[:7] {
				want := api.OK
				if isPointer && (name == "Refs" || name == "Into") {
					want = api.ErrForm
				}
				if name == "Find" && (a < 2 || a > 13) {
					want = api.ErrNone
				}
				if e := got[i][1]; e != want {
					t.Errorf("%s with %d at %d: %v; want %d", name, v, a, got[i], want)
				}
			}
			if isPointer && (len(got[4][0].([]api.WkRef)) != 0 || len(got[5][0].([]int)) != 0) {
				t.Errorf("%d at %d: Refs %v, Into %v", v, a, got[4], got[5])
			}
		}
	}
}

// P6.3: Into has the slots that hold an address from low on, and below high; nil is never counted.
func TestInto(t *testing.T) {
	held := []uint64{0, 1, 2, 5, 5, 7, 1600, 0, 3}
	w := slices.Concat([]uint64{0, 9, headerOf(api.Shape{P: len(held), R: 1})}, held, []uint64{5, 5})
	for _, low := range edgeNumbers() {
		for _, high := range append(edgeNumbers(), 6) {
			var want []int
			for i, v := range held {
				if v != 0 && low <= int(v) && int(v) < high {
					want = append(want, 3+i)
				}
			}
			if l, e := walk.Into(w, 2, 13, low, high); !slices.Equal(l, want) || e != api.OK {
				t.Errorf("Into from %d to %d: %v, %d; want %v", low, high, l, e, want)
			}
		}
	}
}

// P6.4: Count of objects of all shapes, alone, and of several.
func TestCount(t *testing.T) {
	for p := range maxSize {
		for r := range maxSize - p {
			s := api.Shape{P: p, R: r}
			w := with(numbered(140), 3, lain(1, s, api.Shape{P: 1}, s)...)
			one, e := walk.Count(w, 3, 3+sizeOf(s))
			all, f := walk.Count(w, 3, 5+2*sizeOf(s))
			if one != (api.WkCount{Objects: 1, Pointers: p, Raws: r}) || e != api.OK {
				t.Errorf("Count of %v: %v, %d", s, one, e)
			}
			if all != (api.WkCount{Objects: 3, Pointers: 2*p + 1, Raws: 2 * r}) || f != api.OK {
				t.Errorf("Count of %v twice: %v, %d", s, all, f)
			}
		}
	}
}

// P6.1, P6.4: the largest arena, filled with objects of one word, and with the largest objects.
func TestLargest(t *testing.T) {
	w := slices.Repeat([]uint64{1}, maxWords)
	w[0] = 0
	n, e := walk.Count(w, 1, maxWords)
	if n != (api.WkCount{Objects: maxAddress}) || e != api.OK {
		t.Errorf("Count: %v, %d", n, e)
	}
	l := slices.Repeat([]api.Shape{{P: 63}}, 25)
	w, end, e := walk.Fill(w, 1, maxWords, l)
	n, f := walk.Count(w, 1, maxWords)
	if end != maxWords || e != api.OK || n != (api.WkCount{Objects: 25, Pointers: 1575}) || f != api.OK {
		t.Errorf("Fill: %d, %d; Count: %v, %d", end, e, n, f)
	}
	l = make([]api.Shape, maxAddress)
	w, end, e = walk.Fill(w, 1, maxWords, l)
	n, f = walk.Count(w, 1, maxWords)
	if end != maxWords || e != api.OK || n != (api.WkCount{Objects: maxAddress}) || f != api.OK {
		t.Errorf("Fill: %d, %d; Count: %v, %d", end, e, n, f)
	}
	for _, more := range []int{1, 10000} {
		if v, end, e := walk.Fill(w, 1, maxWords, make([]api.Shape, maxAddress+more)); len(v) != 0 || end != 0 || e != api.ErrFull {
			t.Errorf("Fill with %d more: %d words, %d, %d", more, len(v), end, e)
		}
	}
}

// P6.5: Fill makes the objects, with fields of 0, whatever was there; it needs no stretch that is filled, and leaves all other words, also those of the stretch behind the last object.
func TestFill(t *testing.T) {
	for _, l := range [][]api.Shape{nil, {}, {{}}, {{P: 3, R: 4}}, exampleShapes(), {{P: 63}, {}, {R: 63}}} {
		for from := 1; from < 4; from++ {
			for inside := range 3 {
				for behind := range 3 {
					n := sizeOf(l...)
					w := numbered(from + n + inside + behind)
					v, end, e := walk.Fill(w, from, from+n+inside, l)
					if !slices.Equal(v, with(w, from, cleared(l...)...)) || end != from+n || e != api.OK {
						t.Errorf("%v from %d: %v, %d, %d", l, from, v, end, e)
					}
				}
			}
		}
	}
}

// P6.5: Fill returns ErrFull if the objects have more words than the stretch, also if the arena has as many.
func TestFillTooMany(t *testing.T) {
	w := numbered(40)
	l := []api.Shape{{P: 1, R: 1}, {P: 2}, {}}
	for top := 5; top <= 40; top++ {
		v, end, e := walk.Fill(w, 5, top, l)
		if top < 12 && (len(v) != 0 || end != 0 || e != api.ErrFull) || top >= 12 && (len(v) != 40 || end != 12 || e != api.OK) {
			t.Errorf("up to %d: %v, %d, %d", top, v, end, e)
		}
	}
}

// P6.5, R2: the errors of Fill in their order: the arena, the stretch, the first shape that has one, then whether there is room.
func TestErrorsOfFill(t *testing.T) {
	below, large, room := api.Shape{P: -1}, api.Shape{P: 40, R: 24}, api.Shape{P: 63}
	for i, c := range []struct {
		w         []uint64
		from, top int
		l         []api.Shape
		want      api.Errno
	}{
		{nil, 0, 0, []api.Shape{large}, api.ErrLong},
		{[]uint64{1, 0}, 0, 0, []api.Shape{large}, api.ErrForm},
		{example(), 0, 8, []api.Shape{large}, api.ErrRange},
		{example(), 8, 13, []api.Shape{large}, api.ErrRange},
		{example(), 8, 7, nil, api.ErrRange},
		{example(), 8, 12, []api.Shape{large}, api.ErrTooLarge},
		{example(), 8, 12, []api.Shape{large, below}, api.ErrTooLarge},
		{example(), 8, 12, []api.Shape{below, large}, api.ErrRange},
		{example(), 8, 12, []api.Shape{{}, {P: 1}, below, large}, api.ErrRange},
		{example(), 8, 12, []api.Shape{room, large}, api.ErrTooLarge},
		{example(), 8, 12, []api.Shape{room, room, below}, api.ErrRange},
		{example(), 8, 12, []api.Shape{room}, api.ErrFull},
		{example(), 12, 12, []api.Shape{{}}, api.ErrFull},
		{example(), 12, 12, []api.Shape{large}, api.ErrTooLarge},
	} {
		if v, end, e := walk.Fill(c.w, c.from, c.top, c.l); len(v) != 0 || end != 0 || e != c.want {
			t.Errorf("%d: %v, %d, %d; want %d", i, v, end, e, c.want)
		}
	}
}

// The chapter's examples.
func TestExamples(t *testing.T) {
	w := example()
	all, e := walk.Objects(w, 1, 8)
	slots, f := walk.Slots(w, 1, 8)
	refs, g := walk.Refs(w, 1, 8)
	into, h := walk.Into(w, 1, 8, 0, 4)
	n, i := walk.Count(w, 1, 8)
	if !slices.Equal(all, []int{1, 4, 5}) || !slices.Equal(slots, []int{2, 6, 7}) || e != api.OK || f != api.OK {
		t.Errorf("Objects %v, %d; Slots %v, %d", all, e, slots, f)
	}
	if !slices.Equal(refs, []api.WkRef{{Slot: 2, To: 4}, {Slot: 6, To: 1}, {Slot: 7, To: 0}}) || !slices.Equal(into, []int{6}) || g != api.OK || h != api.OK {
		t.Errorf("Refs %v, %d; Into %v, %d", refs, g, into, h)
	}
	if n != (api.WkCount{Objects: 3, Pointers: 3, Raws: 1}) || i != api.OK {
		t.Errorf("Count %v, %d", n, i)
	}
	for _, c := range [][3]int{{1, 7, 5}, {2, 8, 2}, {1, 9, 8}} {
		if at, e := walk.Check(w, c[0], c[1]); at != c[2] || e != api.ErrForm {
			t.Errorf("Check from %d to %d: %d, %d", c[0], c[1], at, e)
		}
	}
	for a, want := range map[int]int{3: 1, 8: 0} {
		if object, e := walk.Find(w, 1, 8, a); object != want || want == 0 && e != api.ErrNone || want != 0 && e != api.OK {
			t.Errorf("Find of %d: %d, %d", a, object, e)
		}
	}
	v, end, e := walk.Fill(w, 8, 12, []api.Shape{{P: 1, R: 1}, {}})
	if !slices.Equal(v, []uint64{0, 65793, 4, 9, 1, 513, 1, 0, 65793, 0, 0, 1}) || end != 12 || e != api.OK {
		t.Errorf("Fill: %v, %d, %d", v, end, e)
	}
	if v, end, e := walk.Fill(w, 8, 12, []api.Shape{{P: 2, R: 2}}); len(v) != 0 || end != 0 || e != api.ErrFull {
		t.Errorf("Fill: %v, %d, %d", v, end, e)
	}
}
