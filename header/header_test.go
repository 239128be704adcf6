package header_test

import (
	"math"
	"slices"
	"testing"

	"shunter/api"
	"shunter/header"
)

// shapeCalls calls all functions with a shape, and wants them to have this error, and zero with it.
func shapeCalls(t *testing.T, s api.Shape, want api.Errno) {
	t.Helper()
	e := header.Check(s)
	n, f := header.Size(s)
	v, g := header.Pack(s)
	if e != want || f != want || g != want {
		t.Errorf("%v: Check %d, Size %d, Pack %d; want %d", s, e, f, g, want)
	}
	if want != api.OK && (n != 0 || v != 0) {
		t.Errorf("%v: Size %d, Pack %d with an error", s, n, v)
	}
}

// P4.1: Size and Pack of all shapes.
func TestShapesHaveSizeAndHeader(t *testing.T) {
	for _, s := range shapes() {
		shapeCalls(t, s, api.OK)
		if n, e := header.Size(s); n != 1+s.P+s.R || e != api.OK {
			t.Errorf("Size(%v): %d, %d", s, n, e)
		}
		if v, e := header.Pack(s); v != uint64(1+256*s.P+65536*s.R) || e != api.OK {
			t.Errorf("Pack(%v): %d, %d", s, v, e)
		}
	}
}

// P4.1: with fields from 0 on, a size above 64 is ErrTooLarge, and no other one.
func TestSizes(t *testing.T) {
	for p := range 131 {
		for r := range 131 {
			want := api.OK
			if 1+p+r > 64 {
				want = api.ErrTooLarge
			}
			shapeCalls(t, api.Shape{P: p, R: r}, want)
		}
	}
}

// P4.1, R2: a number below 0 is ErrRange, also if the other one is too large, or their sum is not.
func TestNumbersBelowZero(t *testing.T) {
	for _, bad := range []int{-1, -2, -63, -64, -256, -65536, math.MinInt32, math.MinInt + 1, math.MinInt} {
		for _, other := range edgeNumbers() {
			shapeCalls(t, api.Shape{P: bad, R: other}, api.ErrRange)
			shapeCalls(t, api.Shape{P: other, R: bad}, api.ErrRange)
		}
	}
}

// P4.1, R1: numbers whose sum is no int are too large.
func TestSumsThatWrap(t *testing.T) {
	large := []int{64, 65, 256, 1 << 32, 1 << 62, math.MaxInt - 64, math.MaxInt - 63, math.MaxInt - 1, math.MaxInt}
	for _, n := range large {
		for _, m := range append(large, 0, 1, 2, 3, 62, 63) {
			shapeCalls(t, api.Shape{P: n, R: m}, api.ErrTooLarge)
			shapeCalls(t, api.Shape{P: m, R: n}, api.ErrTooLarge)
		}
	}
}

// P4.2, P4.3: Kind, Shape and Target of words of all kinds, and of words that are nearly headers or marks.
func TestWords(t *testing.T) {
	shapeOf, addressOf := headers(), marks()
	eachWord(func(v uint64) {
		s, isHeader := shapeOf[v]
		a, isMark := addressOf[v]
		kind, shapeError, targetError := api.HdNone, api.ErrForm, api.ErrForm
		if isHeader {
			kind, shapeError = api.HdObject, api.OK
		}
		if isMark {
			kind, targetError = api.HdForwarded, api.OK
		}
		if got := header.Kind(v); got != kind {
			t.Fatalf("Kind(%d): %d", v, got)
		}
		if got, e := header.Shape(v); got != s || e != shapeError {
			t.Fatalf("Shape(%d): %v, %d", v, got, e)
		}
		if got, e := header.Target(v); got != a || e != targetError {
			t.Fatalf("Target(%d): %d, %d", v, got, e)
		}
	})
}

// P4.2: words beside the headers, part by part.
func TestNoHeaders(t *testing.T) {
	for _, v := range []uint64{
		0, 3, 256, 65536, 255, 1 + 128,
		1 + 256*64, 1 + 256*255, 1 + 65536*64, 1 + 65536*255, 1 + 65536*256, 1 + 65536<<32,
		1 + 256*63 + 65536, 1 + 256 + 65536*63, 1 + 256*32 + 65536*32,
		1 + 1<<24, 1 + 1<<32, 1 + 1<<63, 1 + 256*2 + 65536 + 1<<40, math.MaxUint64 - 254,
	} {
		if s, e := header.Shape(v); s != (api.Shape{}) || e != api.ErrForm || header.Kind(v) != api.HdNone {
			t.Errorf("Shape(%d): %v, %d; Kind %d", v, s, e, header.Kind(v))
		}
	}
}

// P4.3: words beside the marks.
func TestNoMarks(t *testing.T) {
	for _, v := range []uint64{0, 2, 259, 260, 2 + 256*1601, 2 + 256*65536, 2 + 256 + 1<<32, 2 + 256 + 1<<63, 3 + 256*5, 256 * 5, 2 + 128 + 256*5, math.MaxUint64 - 253} {
		if a, e := header.Target(v); a != 0 || e != api.ErrForm || header.Kind(v) != api.HdNone {
			t.Errorf("Target(%d): %d, %d; Kind %d", v, a, e, header.Kind(v))
		}
	}
}

// P4.2, P4.3: a mark has no shape, and a header no target.
func TestOtherKind(t *testing.T) {
	for v := range marks() {
		if s, e := header.Shape(v); s != (api.Shape{}) || e != api.ErrForm {
			t.Errorf("Shape of the mark %d: %v, %d", v, s, e)
		}
	}
	for v := range headers() {
		if a, e := header.Target(v); a != 0 || e != api.ErrForm {
			t.Errorf("Target of the header %d: %d, %d", v, a, e)
		}
	}
}

// P4.3: Forward returns the marks of addresses from 1 to 1600.
func TestForward(t *testing.T) {
	for a := -2000; a <= 4000; a++ {
		v, e := header.Forward(a)
		if a < 1 || a > 1600 {
			if v != 0 || e != api.ErrRange {
				t.Errorf("Forward(%d): %d, %d", a, v, e)
			}
		} else if v != uint64(2+256*a) || e != api.OK {
			t.Errorf("Forward(%d): %d, %d", a, v, e)
		}
	}
	for _, a := range edgeNumbers() {
		if a >= 1 && a <= 1600 {
			continue
		}
		if v, e := header.Forward(a); v != 0 || e != api.ErrRange {
			t.Errorf("Forward(%d): %d, %d", a, v, e)
		}
	}
}

// P4.4: Shapes returns all shapes with a size, ascending by P.
func TestShapes(t *testing.T) {
	for n := minSize; n <= maxSize; n++ {
		var want []api.Shape
		for _, s := range shapes() {
			if 1+s.P+s.R == n {
				want = append(want, s)
			}
		}
		if l, e := header.Shapes(n); !slices.Equal(l, want) || e != api.OK {
			t.Errorf("Shapes(%d): %v, %d", n, l, e)
		}
	}
}

// P4.4: Shapes returns ErrRange for what is no size.
func TestShapesOfNoSize(t *testing.T) {
	for _, n := range edgeNumbers() {
		if n >= minSize && n <= maxSize {
			continue
		}
		if l, e := header.Shapes(n); len(l) != 0 || e != api.ErrRange {
			t.Errorf("Shapes(%d): %v, %d", n, l, e)
		}
	}
}

// The chapter's examples of shapes.
func TestExamplesOfShapes(t *testing.T) {
	for _, c := range []struct {
		s    api.Shape
		n    int
		v    uint64
		want api.Errno
	}{
		{api.Shape{P: 2, R: 1}, 4, 66049, api.OK},
		{api.Shape{}, 1, 1, api.OK},
		{api.Shape{P: 40, R: 24}, 0, 0, api.ErrTooLarge},
		{api.Shape{P: -1}, 0, 0, api.ErrRange},
	} {
		n, e := header.Size(c.s)
		v, f := header.Pack(c.s)
		if n != c.n || e != c.want || v != c.v || f != c.want {
			t.Errorf("%v: Size %d, %d; Pack %d, %d", c.s, n, e, v, f)
		}
	}
	if l, e := header.Shapes(2); !slices.Equal(l, []api.Shape{{R: 1}, {P: 1}}) || e != api.OK {
		t.Errorf("Shapes(2): %v, %d", l, e)
	}
}

// The chapter's examples of words.
func TestExamplesOfWords(t *testing.T) {
	for _, c := range []struct {
		v    uint64
		kind int
		s    api.Shape
		a    int
	}{
		{66049, 1, api.Shape{P: 2, R: 1}, 0},
		{66048, 0, api.Shape{}, 0},
		{66051, 0, api.Shape{}, 0},
		{1282, 2, api.Shape{}, 5},
		{2, 0, api.Shape{}, 0},
		{1, 1, api.Shape{}, 0},
		{0, 0, api.Shape{}, 0},
		{16777217, 0, api.Shape{}, 0},
	} {
		kind := header.Kind(c.v)
		s, e := header.Shape(c.v)
		a, f := header.Target(c.v)
		if kind != c.kind || s != c.s || a != c.a || (e == api.OK) != (kind == 1) || (f == api.OK) != (kind == 2) {
			t.Errorf("%d: Kind %d; Shape %v, %d; Target %d, %d", c.v, kind, s, e, a, f)
		}
	}
	for a, want := range map[int]uint64{5: 1282, 0: 0} {
		if v, e := header.Forward(a); v != want || (e == api.OK) != (a == 5) {
			t.Errorf("Forward(%d): %d, %d", a, v, e)
		}
	}
}
