package header_test

import (
	"reflect"
	"slices"
	"testing"

	"shunter/api"
	"shunter/header"
)

// results calls all functions with an error, and collects what each returns, the error last.
func results(s api.Shape, v uint64, n int) [][]any {
	size, e1 := header.Size(s)
	packed, e2 := header.Pack(s)
	shape, e3 := header.Shape(v)
	mark, e4 := header.Forward(n)
	target, e5 := header.Target(v)
	l, e6 := header.Shapes(n)
	return [][]any{{header.Check(s)}, {size, e1}, {packed, e2}, {shape, e3}, {mark, e4}, {target, e5}, {l, e6}}
}

// isZero reports whether a result is zero; a list may be empty.
func isZero(x any) bool {
	v := reflect.ValueOf(x)
	return v.Kind() == reflect.Slice && v.Len() == 0 || v.Kind() != reflect.Slice && v.IsZero()
}

// P4.7, R1, R2, R6: any arguments are accepted; with an error other results are zero; the same arguments have the same results.
func TestAnyArguments(t *testing.T) {
	r := dice()
	edges := edgeNumbers()
	number := func() int {
		if r.Intn(3) == 0 {
			return int(r.Uint64())
		}
		return edges[r.Intn(len(edges))]
	}
	for range 100000 {
		s, v, n := api.Shape{P: number(), R: number()}, uint64(number()), number()
		got := results(s, v, n)
		for i, l := range got {
			e := l[len(l)-1].(api.Errno)
			if !slices.Contains([]api.Errno{api.OK, api.ErrForm, api.ErrRange, api.ErrTooLarge}, e) {
				t.Fatalf("%v, %d, %d: function %d: %v", s, v, n, i, l)
			}
			if e != api.OK && len(l) > 1 && !isZero(l[0]) {
				t.Fatalf("%v, %d, %d: function %d: %v", s, v, n, i, l)
			}
		}
		if kind := header.Kind(v); kind < api.HdNone || kind > api.HdForwarded || kind != header.Kind(v) {
			t.Fatalf("Kind(%d): %d", v, kind)
		}
		if !reflect.DeepEqual(got, results(s, v, n)) {
			t.Fatalf("%v, %d, %d: results differ", s, v, n)
		}
	}
}

// P4.7, R3: lists of Shapes are new memory.
func TestShapesAreNew(t *testing.T) {
	for _, n := range []int{1, 2, 63, 64} {
		l, _ := header.Shapes(n)
		other, _ := header.Shapes(n)
		before := slices.Clone(other)
		l = l[:cap(l)]
		for i := range l {
			l[i] = api.Shape{P: 77, R: 77}
		}
		again, e := header.Shapes(n)
		if !slices.Equal(other, before) || !slices.Equal(again, before) || e != api.OK {
			t.Errorf("Shapes(%d) after a change: %v; %v, %d", n, other, again, e)
		}
	}
}
