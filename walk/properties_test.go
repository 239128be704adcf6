package walk_test

import (
	"reflect"
	"slices"
	"testing"

	"shunter/api"
	"shunter/walk"
)

// P6.1 to P6.5: whatever the arguments are, all results are those of the chapter, read literally.
func TestAnyCalls(t *testing.T) {
	r := dice()
	found := map[string]map[any]int{}
	for _, name := range names() {
		found[name] = map[any]int{}
	}
	for range 100000 {
		c := anyCall(r)
		for range r.Intn(3) {
			spoil(r, &c)
		}
		got, want := results(c), expected(c)
		for i, name := range names() {
			if !reflect.DeepEqual(got[i], want[i]) {
				t.Fatalf("%s of %+v: %v; want %v", name, c, got[i], want[i])
			}
			found[name][got[i][len(got[i])-1]]++
		}
	}
	for _, name := range names() {
		for _, e := range []api.Errno{api.OK, api.ErrForm, api.ErrRange} {
			if found[name][e] < 1000 {
				t.Errorf("%s had %d in %d calls only", name, e, found[name][e])
			}
		}
	}
	if found["Find"][api.ErrNone] < 1000 || found["Fill"][api.ErrFull] < 1000 || found["Fill"][api.ErrTooLarge] < 1000 {
		t.Errorf("Find: %v; Fill: %v", found["Find"], found["Fill"])
	}
}

// P6.6: each word of a stretch that is filled belongs to just one object, and is its header, a slot, or a raw field; what Count counts are its words.
func TestCovers(t *testing.T) {
	r := dice()
	for range 5000 {
		w, from, top := anyFilled(r)
		n, e := walk.Count(w, from, top)
		if e != api.OK || n.Objects+n.Pointers+n.Raws != top-from {
			t.Fatalf("Count of %v from %d to %d: %v, %d", w, from, top, n, e)
		}
		headers, _ := walk.Objects(w, from, top)
		slots, _ := walk.Slots(w, from, top)
		raws := 0
		for a := from; a < top; a++ {
			object, e := walk.Find(w, from, top, a)
			s, is := shapeOf(w[object])
			if e != api.OK || !is || a < object || a >= object+sizeOf(s) {
				t.Fatalf("Find of %d in %v: %d, %d", a, w, object, e)
			}
			isHeader, isSlot := slices.Contains(headers, a), slices.Contains(slots, a)
			if isHeader != (a == object) || isSlot != (a > object && a <= object+s.P) {
				t.Fatalf("%d in %v: header %v, slot %v", a, w, isHeader, isSlot)
			}
			if !isHeader && !isSlot {
				raws++
			}
		}
		if n != (api.WkCount{Objects: len(headers), Pointers: len(slots), Raws: raws}) {
			t.Fatalf("Count of %v: %v; objects %v, slots %v, %d raw fields", w, n, headers, slots, raws)
		}
	}
}

// P6.7: a stretch that is filled, and is cut at an object, or at its ends, is two that are; what is found in it is what is found in both.
func TestParts(t *testing.T) {
	r := dice()
	for range 3000 {
		c := anyCall(r)
		c.l = nil
		headers, _ := walk.Objects(c.w, c.from, c.top)
		for _, cut := range append(headers, c.from, c.top) {
			first, second := c, c
			first.top, second.from = cut, cut
			all, l, m := results(c), results(first), results(second)
			if l[0][1] != api.OK || m[0][1] != api.OK {
				t.Fatalf("%v from %d to %d, cut at %d: %v; %v", c.w, c.from, c.top, cut, l[0], m[0])
			}
			if !reflect.DeepEqual(both(l, m), all[1:7]) {
				t.Fatalf("%v from %d to %d, cut at %d: %v and %v; together %v", c.w, c.from, c.top, cut, l, m, all)
			}
		}
	}
}

// both returns what was found in two stretches, one after the other: Objects to Count.
func both(l, m [][]any) [][]any {
	ints := func(i int) []any { return []any{slices.Concat(l[i][0].([]int), m[i][0].([]int)), api.OK} }
	refs := slices.Concat(l[4][0].([]api.WkRef), m[4][0].([]api.WkRef))
	n, o := l[6][0].(api.WkCount), m[6][0].(api.WkCount)
	find := l[2]
	if find[1] == api.ErrNone {
		find = m[2]
	}
	n = api.WkCount{Objects: n.Objects + o.Objects, Pointers: n.Pointers + o.Pointers, Raws: n.Raws + o.Raws}
	all := [][]any{ints(1), find, ints(3), {refs, api.OK}, ints(5), {n, api.OK}}
	for _, i := range []int{0, 2, 4} {
		all[i][0] = list(all[i][0].([]int))
	}
	all[3][0] = list(refs)
	return all
}

// P6.7: a stretch that is cut anywhere else than at an object, or at its ends, has a first part that is not filled.
func TestCutsBetween(t *testing.T) {
	r := dice()
	for range 3000 {
		w, from, top := anyFilled(r)
		headers, _ := walk.Objects(w, from, top)
		for cut := from; cut <= top; cut++ {
			at, e := walk.Check(w, from, cut)
			if is := cut == top || slices.Contains(headers, cut); is != (e == api.OK) {
				t.Fatalf("%v from %d to %d: %d, %d", w, from, cut, at, e)
			}
		}
	}
}

// P6.8: what Fill fills is filled up to the end, with these shapes, one after the other, and fields of 0; all other words stay.
func TestFillIsFilled(t *testing.T) {
	r := dice()
	for range 5000 {
		l := anyShapes(r, 10)
		from := 1 + r.Intn(5)
		top := from + sizeOf(l...) + r.Intn(5)
		w := numbered(top + r.Intn(5))
		v, end, e := walk.Fill(w, from, top, l)
		at, f := walk.Check(v, from, end)
		objects, g := walk.Objects(v, from, end)
		refs, h := walk.Refs(v, from, end)
		if e != api.OK || at != 0 || f != api.OK || g != api.OK || h != api.OK || len(objects) != len(l) {
			t.Fatalf("%v from %d: %v, %d, %d; Check %d, %d", l, from, v, end, e, at, f)
		}
		for i, a := range objects {
			if s, is := shapeOf(v[a]); !is || s != l[i] {
				t.Fatalf("%v from %d: %v at %d", l, from, s, a)
			}
		}
		if slices.ContainsFunc(refs, func(r api.WkRef) bool { return r.To != 0 }) {
			t.Fatalf("%v from %d: %v", l, from, refs)
		}
		if len(v) != len(w) || !slices.Equal(v[:from], w[:from]) || !slices.Equal(v[end:], w[end:]) {
			t.Fatalf("%v from %d to %d: %v is now %v", l, from, end, w, v)
		}
	}
}

// P6.8: filling a stretch in two parts is the same as filling it at once.
func TestFillInParts(t *testing.T) {
	r := dice()
	for range 3000 {
		l, m := anyShapes(r, 6), anyShapes(r, 6)
		from := 1 + r.Intn(5)
		top := from + sizeOf(l...) + sizeOf(m...)
		w := numbered(top + r.Intn(3))
		first, middle, e := walk.Fill(w, from, top, l)
		second, end, f := walk.Fill(first, middle, top, m)
		all, last, g := walk.Fill(w, from, top, slices.Concat(l, m))
		if e != api.OK || f != api.OK || g != api.OK || end != top || last != top || !slices.Equal(second, all) {
			t.Fatalf("%v and %v from %d: %v, %d; at once %v, %d", l, m, from, second, end, all, last)
		}
	}
}
