package objects_test

import (
	"reflect"
	"slices"
	"testing"

	"shunter/api"
	"shunter/objects"
)

// P5.1 to P5.5: whatever the arena and the arguments are, all results are those of the chapter, read literally.
func TestAnyCalls(t *testing.T) {
	r := dice()
	found := map[string]int{}
	for range 100000 {
		c := anyCall(r, anyArena(r))
		for range r.Intn(3) {
			spoil(r, &c)
		}
		got, want := results(c), expected(c)
		for i, name := range names() {
			if !reflect.DeepEqual(got[i], want[i]) {
				t.Fatalf("%s of %+v: %v; want %v", name, c, got[i], want[i])
			}
			if got[i][1] == api.OK {
				found[name]++
			}
		}
	}
	for _, name := range names() {
		if found[name] < 1000 {
			t.Errorf("%s had no error in %d calls only", name, found[name])
		}
	}
}

// P5.6: what was set is read, in whatever order fields are set; all other words of the arena stay.
func TestSetFields(t *testing.T) {
	r := dice()
	for range 2000 {
		s := one(r, fewShapes())
		before := filled(100, 1+r.Intn(36), s)
		a := slices.Index(before, headerOf(s))
		w, want := before, slices.Clone(before)
		for _, i := range r.Perm(s.P + s.R) {
			var e api.Errno
			if i < s.P {
				to := r.Intn(100)
				w, e = objects.SetPointer(w, a, i, to)
				want[a+1+i] = uint64(to)
			} else {
				v := r.Uint64()
				w, e = objects.SetRaw(w, a, i-s.P, v)
				want[a+1+i] = v
			}
			if e != api.OK || !slices.Equal(w, want) {
				t.Fatalf("%v at %d, field %d: %v, %d; want %v", s, a, i, w, e, want)
			}
		}
		if !holds(w, a, s, want[a+1:]) {
			t.Fatalf("%v at %d: %v does not hold %v", s, a, w, want)
		}
	}
}

// holds says whether the fields of an object are these words.
func holds(w []uint64, a int, s api.Shape, words []uint64) bool {
	all, f := objects.Pointers(w, a)
	good := f == api.OK && len(all) == s.P
	for i := range s.P {
		p, e := objects.Pointer(w, a, i)
		good = good && e == api.OK && uint64(p) == words[i] && all[i] == p
	}
	for i := range s.R {
		v, e := objects.Raw(w, a, i)
		good = good && e == api.OK && v == words[s.P+i]
	}
	return good
}

// P5.6: fields that are set in one order are those that are set in another one; the last of two in one field counts.
func TestSetInAnyOrder(t *testing.T) {
	s := api.Shape{P: 2, R: 2}
	w := filled(20, 6, s)
	sets := []func(w []uint64) ([]uint64, api.Errno){
		func(w []uint64) ([]uint64, api.Errno) { return objects.SetPointer(w, 6, 0, 19) },
		func(w []uint64) ([]uint64, api.Errno) { return objects.SetPointer(w, 6, 1, 0) },
		func(w []uint64) ([]uint64, api.Errno) { return objects.SetRaw(w, 6, 0, 1<<63) },
		func(w []uint64) ([]uint64, api.Errno) { return objects.SetRaw(w, 6, 1, 66049) },
	}
	want := with(w, 7, 19, 0, 1<<63, 66049)
	r := dice()
	for range 100 {
		v := w
		order := r.Perm(len(sets))
		for _, i := range order {
			v, _ = sets[i](v)
		}
		if !slices.Equal(v, want) {
			t.Fatalf("in the order %v: %v", order, v)
		}
	}
	v, _ := objects.SetRaw(w, 6, 0, 11)
	v, _ = objects.SetRaw(v, 6, 0, 12)
	if !slices.Equal(v, with(w, 9, 12)) {
		t.Errorf("set twice: %v", v)
	}
}

// P5.7: header, slots and raw fields are the size, one after the other; what Make makes is an object of this shape with fields of 0.
func TestSizes(t *testing.T) {
	for _, s := range shapes() {
		a := 5
		w, e := objects.Make(numbered(80), a, s)
		shape, f := objects.Shape(w, a)
		slots, g := objects.Slots(w, a)
		n, h := objects.Size(w, a)
		if shape != s || n != 1+len(slots)+s.R || e != api.OK || f != api.OK || g != api.OK || h != api.OK {
			t.Fatalf("%v: Shape %v, Slots %v, Size %d", s, shape, slots, n)
		}
		if !holds(w, a, s, make([]uint64, n-1)) {
			t.Errorf("%v: the fields of %v are not 0", s, w)
		}
		if !slices.Equal(places(t, w, a, s), w) {
			t.Errorf("%v: its fields are not where they have to be", s)
		}
	}
}

// places returns the arena in which each word of the object was found by setting its field, and was set back.
func places(t *testing.T, w []uint64, a int, s api.Shape) []uint64 {
	slots, _ := objects.Slots(w, a)
	for i := range s.P + s.R {
		var v []uint64
		if i < s.P {
			v, _ = objects.SetPointer(w, a, i, 9)
		} else {
			v, _ = objects.SetRaw(w, a, i-s.P, 9)
		}
		if !slices.Equal(v, with(w, a+1+i, 9)) || i < s.P && slots[i] != a+1+i {
			t.Fatalf("%v at %d: the field %d is not at %d", s, a, i, a+1+i)
		}
		if i < s.P {
			w, _ = objects.SetPointer(v, a, i, 0)
		} else {
			w, _ = objects.SetRaw(v, a, i-s.P, 0)
		}
	}
	return w
}

// P5.7: objects that are made one after the other are all there, and end where the next one begins.
func TestManyObjects(t *testing.T) {
	w, a := make([]uint64, maxWords), 1
	var l []api.Shape
	for _, s := range append(shapes()[:20], fewShapes()...) {
		v, e := objects.Make(w, a, s)
		if e != api.OK {
			t.Fatalf("Make(%d, %v): %d", a, s, e)
		}
		w, l = v, append(l, s)
		a += 1 + s.P + s.R
	}
	a = 1
	for _, s := range l {
		shape, e := objects.Shape(w, a)
		n, f := objects.Size(w, a)
		if shape != s || e != api.OK || f != api.OK {
			t.Fatalf("Shape at %d: %v, %d; want %v", a, shape, e, s)
		}
		a += n
	}
}
