package objects_test

import (
	"reflect"
	"slices"
	"testing"

	"shunter/api"
	"shunter/objects"
)

// P5.1: Make makes objects of all shapes, at the beginning, in the middle and at the end of an arena; its fields are 0, whatever was there.
func TestMake(t *testing.T) {
	for _, s := range shapes() {
		n := 1 + s.P + s.R
		for _, before := range []int{0, 1, 5} {
			for _, behind := range []int{0, 1, 5} {
				w, a := numbered(1+before+n+behind), 1+before
				want := with(w, a, append([]uint64{headerOf(s)}, make([]uint64, n-1)...)...)
				if v, e := objects.Make(w, a, s); !slices.Equal(v, want) || e != api.OK {
					t.Errorf("Make(%d words, %d, %v): %v, %d", len(w), a, s, v, e)
				}
			}
		}
	}
}

// P5.1: Make returns ErrRange where the words are not all there, also if only the last one is not, and for what is no address.
func TestMakeBeyond(t *testing.T) {
	for _, s := range shapes() {
		n := 1 + s.P + s.R
		for _, words := range []int{1, n, n + 1, n + 7, maxWords} {
			w := numbered(words)
			for _, a := range append(edgeNumbers(), words-n-1, words-n, words-n+1, words-1, words) {
				v, e := objects.Make(w, a, s)
				if good := a >= 1 && a <= words-n; good != (e == api.OK) || !good && (len(v) != 0 || e != api.ErrRange) {
					t.Errorf("Make(%d words, %d, %v): %d words, %d", words, a, s, len(v), e)
				}
			}
		}
	}
}

// P5.1: Make returns the error of header.Check before that of the address.
func TestMakeOfNoShape(t *testing.T) {
	for _, a := range []int{1, 3, 9, 10, 0, -1} {
		for _, p := range append(edgeNumbers(), 40) {
			for _, r := range append(edgeNumbers(), 24) {
				s := api.Shape{P: p, R: r}
				want := checkShape(s)
				if v, e := objects.Make(example(), a, s); want != api.OK && (len(v) != 0 || e != want) {
					t.Errorf("Make(W, %d, %v): %v, %d; want %d", a, s, v, e, want)
				}
			}
		}
	}
}

// P5.2: Shape, Size and Slots, of all shapes.
func TestShapeSizeSlots(t *testing.T) {
	for _, s := range shapes() {
		n := 1 + s.P + s.R
		for _, a := range []int{1, 2, 90} {
			for _, behind := range []int{0, 1, 70} {
				w := filled(a+n+behind, a, s)
				var want []int
				for i := range s.P {
					want = append(want, a+1+i)
				}
				shape, e := objects.Shape(w, a)
				size, f := objects.Size(w, a)
				slots, g := objects.Slots(w, a)
				if shape != s || size != n || !slices.Equal(slots, want) || e != api.OK || f != api.OK || g != api.OK {
					t.Errorf("%v at %d: Shape %v, %d; Size %d, %d; Slots %v, %d", s, a, shape, e, size, f, slots, g)
				}
			}
		}
	}
}

// P5.2: objects in the largest arena, up to its last address.
func TestLastObjects(t *testing.T) {
	for _, s := range fewShapes() {
		n := 1 + s.P + s.R
		c := call{w: filled(maxWords, maxWords-n, s), a: maxWords - n, b: maxWords - n, to: maxAddress, s: s, v: 1 << 63}
		if got, want := results(c), expected(c); !reflect.DeepEqual(got, want) || got[2][0] != n {
			t.Errorf("%v at %d: %v; want %v", s, c.a, got, want)
		}
	}
}

// P5.3: Pointer and Raw return what the fields of an object hold, in order, and Pointers all of its addresses; there are no other fields.
func TestFields(t *testing.T) {
	for _, s := range shapes() {
		w := filled(100, 4, s)
		for i := range s.P {
			if p, e := objects.Pointer(w, 4, i); p != i+1 || e != api.OK {
				t.Errorf("Pointer(%v, %d): %d, %d", s, i, p, e)
			}
		}
		for i := range s.R {
			if v, e := objects.Raw(w, 4, i); v != uint64(s.P+i+1) || e != api.OK {
				t.Errorf("Raw(%v, %d): %d, %d", s, i, v, e)
			}
		}
		var want []int
		for i := range s.P {
			want = append(want, i+1)
		}
		if l, e := objects.Pointers(w, 4); !slices.Equal(l, want) || e != api.OK {
			t.Errorf("Pointers(%v): %v, %d", s, l, e)
		}
	}
}

// P5.3, P5.4: functions with a field return ErrBad if there is none of that kind, and nothing else, also for an address that would be out of range.
func TestNoFields(t *testing.T) {
	for _, s := range fewShapes() {
		w := filled(100, 4, s)
		for _, i := range append(edgeNumbers(), s.P-1, s.P, s.P+1, s.R-1, s.R, s.R+1, s.P+s.R) {
			if i < 0 || i >= s.P {
				p, e := objects.Pointer(w, 4, i)
				v, f := objects.SetPointer(w, 4, i, 5)
				x, g := objects.SetPointer(w, 4, i, 100)
				if p != 0 || len(v) != 0 || len(x) != 0 || e != api.ErrBad || f != api.ErrBad || g != api.ErrBad {
					t.Errorf("%v, %d: Pointer %d, %d; SetPointer %v, %d; %v, %d", s, i, p, e, v, f, x, g)
				}
			}
			if i < 0 || i >= s.R {
				x, e := objects.Raw(w, 4, i)
				v, f := objects.SetRaw(w, 4, i, 5)
				if x != 0 || len(v) != 0 || e != api.ErrBad || f != api.ErrBad {
					t.Errorf("%v, %d: Raw %d, %d; SetRaw %v, %d", s, i, x, e, v, f)
				}
			}
		}
	}
}

// P5.3: a pointer word is read if it holds an address from 0 to 1600, be it one of this arena or not, with or without an object; a raw field may hold any word.
func TestPointerWords(t *testing.T) {
	for _, v := range append(edgeWords(), 5, 6, 9, 10, 11) {
		w := with(make([]uint64, 10), 3, headerOf(api.Shape{P: 2, R: 1}), 7, v, v)
		p, e := objects.Pointer(w, 3, 1)
		l, f := objects.Pointers(w, 3)
		if v <= maxAddress {
			if p != int(v) || e != api.OK || !slices.Equal(l, []int{7, int(v)}) || f != api.OK {
				t.Errorf("%d: Pointer %d, %d; Pointers %v, %d", v, p, e, l, f)
			}
		} else if p != 0 || e != api.ErrForm || len(l) != 0 || f != api.ErrForm {
			t.Errorf("%d: Pointer %d, %d; Pointers %v, %d", v, p, e, l, f)
		}
		if x, e := objects.Raw(w, 3, 0); x != v || e != api.OK {
			t.Errorf("Raw of %d: %d, %d", v, x, e)
		}
	}
}

// P5.3: Pointer looks at the word of its field alone, Pointers at those of all pointer fields, and at no raw field; Shape, Size and Slots at none.
func TestOtherPointerWords(t *testing.T) {
	for bad := range 4 {
		w := with(make([]uint64, 20), 3, headerOf(api.Shape{P: 4, R: 2}), 1, 2, 3, 4, 5000, 6000)
		l, e := objects.Pointers(w, 3)
		w[4+bad] = 1601
		m, f := objects.Pointers(w, 3)
		if !slices.Equal(l, []int{1, 2, 3, 4}) || e != api.OK || len(m) != 0 || f != api.ErrForm {
			t.Errorf("%d: Pointers %v, %d; %v, %d", bad, l, e, m, f)
		}
		for i := range 4 {
			p, e := objects.Pointer(w, 3, i)
			if i == bad && (p != 0 || e != api.ErrForm) || i != bad && (p != i+1 || e != api.OK) {
				t.Errorf("%d: Pointer %d: %d, %d", bad, i, p, e)
			}
		}
		n, e := objects.Size(w, 3)
		slots, f := objects.Slots(w, 3)
		if n != 7 || e != api.OK || !slices.Equal(slots, []int{4, 5, 6, 7}) || f != api.OK {
			t.Errorf("%d: Size %d, %d; Slots %v, %d", bad, n, e, slots, f)
		}
	}
}

// P5.4: SetPointer and SetRaw change that word, and no other one, whatever it was before; objects at their addresses are not asked for.
func TestSet(t *testing.T) {
	for _, s := range fewShapes() {
		w := filled(100, 4, s)
		w[5] |= 1 << 50
		for i := range s.P {
			for _, to := range []int{0, 1, 4, 5 + i, 98, 99} {
				if v, e := objects.SetPointer(w, 4, i, to); !slices.Equal(v, with(w, 5+i, uint64(to))) || e != api.OK {
					t.Errorf("SetPointer(%v, %d, %d): %v, %d", s, i, to, v, e)
				}
			}
		}
		for i := range s.R {
			for _, x := range edgeWords() {
				if v, e := objects.SetRaw(w, 4, i, x); !slices.Equal(v, with(w, 5+s.P+i, x)) || e != api.OK {
					t.Errorf("SetRaw(%v, %d, %d): %v, %d", s, i, x, v, e)
				}
			}
		}
	}
}

// P5.4: SetPointer returns ErrRange for what is no address of this arena; its last address is one, though others may be read.
func TestSetPointerBeyond(t *testing.T) {
	for _, words := range []int{3, 10, 100, 1600, 1601} {
		w := filled(words, 1, api.Shape{P: 1})
		for _, to := range append(edgeNumbers(), words-1, words, words+1) {
			v, e := objects.SetPointer(w, 1, 0, to)
			if to >= 0 && to < words {
				if !slices.Equal(v, with(w, 2, uint64(to))) || e != api.OK {
					t.Errorf("SetPointer to %d of %d words: %d words, %d", to, words, len(v), e)
				}
			} else if len(v) != 0 || e != api.ErrRange {
				t.Errorf("SetPointer to %d of %d words: %d words, %d", to, words, len(v), e)
			}
		}
	}
}

// P5.5: Alike compares shapes and raw fields, but no pointer fields, which may hold anything.
func TestAlike(t *testing.T) {
	for i, c := range []struct {
		first, second []uint64
		want          bool
	}{
		{[]uint64{1}, []uint64{1}, true},
		{[]uint64{1}, []uint64{257, 0}, false},
		{[]uint64{1}, []uint64{65537, 0}, false},
		{[]uint64{257, 0}, []uint64{65537, 0}, false},
		{[]uint64{257, 0}, []uint64{257, 9}, true},
		{[]uint64{257, 1 << 60}, []uint64{257, 1601}, true},
		{[]uint64{65537, 8}, []uint64{65537, 8}, true},
		{[]uint64{65537, 8}, []uint64{65537, 9}, false},
		{[]uint64{65537, 8}, []uint64{65537, 8 + 1<<63}, false},
		{[]uint64{66049, 1, 2, 3}, []uint64{66049, 5, 6, 3}, true},
		{[]uint64{66049, 1, 2, 3}, []uint64{66049, 1, 2, 4}, false},
		{[]uint64{66049, 1, 2, 3}, []uint64{131329, 1, 2, 3}, false},
		{[]uint64{66049, 1, 2, 3}, []uint64{65793, 2, 3}, false},
		{[]uint64{131073, 1, 2}, []uint64{131073, 2, 1}, false},
		{[]uint64{131073, 1, 2}, []uint64{131073, 1, 3}, false},
		{[]uint64{131073, 1, 2}, []uint64{131073, 3, 2}, false},
		{[]uint64{131073, 1, 2}, []uint64{131329, 0, 1, 2}, false},
	} {
		w := slices.Concat([]uint64{0}, c.first, c.second)
		a, b := 1, 1+len(c.first)
		is, e := objects.Alike(w, a, b)
		back, f := objects.Alike(w, b, a)
		if is != c.want || back != c.want || e != api.OK || f != api.OK {
			t.Errorf("%d: Alike %v, %d; %v, %d", i, is, e, back, f)
		}
		if is, e := objects.Alike(w, a, a); !is || e != api.OK {
			t.Errorf("%d: Alike with itself: %v, %d", i, is, e)
		}
	}
}

// P5.5: each raw field counts, also the last one, and no word behind it.
func TestAlikeInEachField(t *testing.T) {
	for _, s := range fewShapes() {
		n := 1 + s.P + s.R
		w := slices.Concat([]uint64{0}, filled(n+2, 1, s)[1:], filled(n+3, 1, s)[1:])
		w[1+n]++
		a, b := 1, n+2
		for i := 1; i < n; i++ {
			v := with(w, b+i, w[b+i]^1<<40)
			if is, e := objects.Alike(v, a, b); is != (i <= s.P) || e != api.OK {
				t.Errorf("Alike(%v) with another field %d: %v, %d", s, i, is, e)
			}
		}
		if is, e := objects.Alike(w, a, b); !is || e != api.OK {
			t.Errorf("Alike(%v): %v, %d", s, is, e)
		}
	}
}

// The chapter's examples.
func TestExamples(t *testing.T) {
	w := example()
	shape, e := objects.Shape(w, 3)
	size, f := objects.Size(w, 3)
	slots, g := objects.Slots(w, 3)
	all, h := objects.Pointers(w, 3)
	if shape != (api.Shape{P: 2, R: 1}) || size != 4 || !slices.Equal(slots, []int{4, 5}) || !slices.Equal(all, []int{7, 0}) || e != api.OK || f != api.OK || g != api.OK || h != api.OK {
		t.Errorf("Shape %v, %d; Size %d, %d; Slots %v, %d; Pointers %v, %d", shape, e, size, f, slots, g, all, h)
	}
	for a, want := range map[int]api.Errno{3: api.OK, 4: api.ErrForm, 0: api.ErrRange, 10: api.ErrRange} {
		if _, e := objects.Shape(w, a); e != want {
			t.Errorf("Shape of %d: %d", a, e)
		}
	}
	for field, want := range []int{7, 0, 0} {
		if p, e := objects.Pointer(w, 3, field); p != want || (e == api.OK) != (field < 2) || field == 2 && e != api.ErrBad {
			t.Errorf("Pointer of %d: %d, %d", field, p, e)
		}
	}
	if x, e := objects.Raw(w, 3, 0); x != 99 || e != api.OK {
		t.Errorf("Raw: %d, %d", x, e)
	}
	for to, want := range map[int]api.Errno{9: api.OK, 10: api.ErrRange} {
		v, e := objects.SetPointer(w, 3, 1, to)
		if e != want || e == api.OK && !slices.Equal(v, []uint64{0, 0, 0, 66049, 7, 9, 99, 0, 0, 0}) || e != api.OK && len(v) != 0 {
			t.Errorf("SetPointer to %d: %v, %d", to, v, e)
		}
	}
	for a, want := range map[int]api.Errno{7: api.OK, 8: api.ErrRange, 0: api.ErrRange} {
		v, e := objects.Make(w, a, api.Shape{P: 1, R: 1})
		if e != want || e == api.OK && !slices.Equal(v, []uint64{0, 0, 0, 66049, 7, 0, 99, 65793, 0, 0}) || e != api.OK && len(v) != 0 {
			t.Errorf("Make at %d: %v, %d", a, v, e)
		}
	}
}
