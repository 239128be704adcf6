package header_test

import (
	"testing"

	"shunter/api"
	"shunter/header"
)

// P4.5: Shape of Pack is the shape.
func TestShapeOfPack(t *testing.T) {
	for _, s := range shapes() {
		v, e := header.Pack(s)
		if got, f := header.Shape(v); got != s || e != api.OK || f != api.OK {
			t.Errorf("Pack(%v): %d, %d; its Shape: %v, %d", s, v, e, got, f)
		}
	}
}

// P4.5: Target of Forward is the address.
func TestTargetOfForward(t *testing.T) {
	for a := 1; a <= lastAddress; a++ {
		v, e := header.Forward(a)
		if got, f := header.Target(v); got != a || e != api.OK || f != api.OK {
			t.Errorf("Forward(%d): %d, %d; its Target: %d, %d", a, v, e, got, f)
		}
	}
}

// P4.5, P4.6, P4.2: a word that has a shape is Pack of it, one that has a target is Forward of it; none has both; its kind says which one it has.
func TestBackFromWords(t *testing.T) {
	eachWord(func(v uint64) {
		s, e := header.Shape(v)
		a, f := header.Target(v)
		kind := header.Kind(v)
		if (e == api.OK) != (kind == api.HdObject) || (f == api.OK) != (kind == api.HdForwarded) || e == api.OK && f == api.OK {
			t.Fatalf("%d: Kind %d, Shape %v, %d, Target %d, %d", v, kind, s, e, a, f)
		}
		if e == api.OK {
			if got, g := header.Pack(s); got != v || g != api.OK {
				t.Fatalf("Shape(%d): %v; its Pack: %d, %d", v, s, got, g)
			}
		}
		if f == api.OK {
			if got, g := header.Forward(a); got != v || g != api.OK {
				t.Fatalf("Target(%d): %d; its Forward: %d, %d", v, a, got, g)
			}
		}
	})
}

// P4.6: different shapes have different headers, different addresses different marks, none of which is another one, or 0.
func TestApart(t *testing.T) {
	from := map[uint64]any{0: "nothing"}
	put := func(v uint64, what any, kind int) {
		if before, is := from[v]; is || header.Kind(v) != kind {
			t.Errorf("%v has the word %d, of kind %d; so has %v", what, v, header.Kind(v), before)
		}
		from[v] = what
	}
	for _, s := range shapes() {
		v, _ := header.Pack(s)
		put(v, s, api.HdObject)
	}
	for a := 1; a <= lastAddress; a++ {
		v, _ := header.Forward(a)
		put(v, a, api.HdForwarded)
	}
	if header.Kind(0) != api.HdNone {
		t.Errorf("Kind(0): %d", header.Kind(0))
	}
}

// P4.7: there are n shapes with the size n, and 2080 in all, none of them twice.
func TestHowManyShapes(t *testing.T) {
	all := map[api.Shape]bool{}
	for n := minSize; n <= maxSize; n++ {
		l, e := header.Shapes(n)
		if len(l) != n || e != api.OK {
			t.Errorf("Shapes(%d): %d shapes, %d", n, len(l), e)
		}
		for _, s := range l {
			if size, e := header.Size(s); size != n || e != api.OK {
				t.Errorf("Shapes(%d): the size of %v is %d, %d", n, s, size, e)
			}
			all[s] = true
		}
	}
	if len(all) != 2080 {
		t.Errorf("%d shapes in all", len(all))
	}
}

// P4.2, P4.7: Kind tells as many headers as there are shapes, in all words that may be one.
func TestHowManyHeaders(t *testing.T) {
	var counts [3]int
	for v := range uint64(1 << 23) {
		counts[header.Kind(v)]++
	}
	if counts[api.HdObject] != 2080 || counts[api.HdForwarded] != 1600 {
		t.Errorf("%d headers and %d marks", counts[api.HdObject], counts[api.HdForwarded])
	}
}
