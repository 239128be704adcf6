package walk_test

import (
	"math"
	"math/rand"
	"slices"

	"shunter/api"
	"shunter/walk"
)

// Limits of sizes, addresses and arenas, as the chapters have them.
const (
	maxSize    = 64
	maxAddress = 1600
	maxWords   = 1601
)

// example is the arena W of the chapter's examples.
func example() []uint64 { return []uint64{0, 65793, 4, 9, 1, 513, 1, 0, 0, 0, 0, 0} }

// headerOf returns the header of a shape.
func headerOf(s api.Shape) uint64 { return 1 + 256*uint64(s.P) + 65536*uint64(s.R) }

// sizeOf returns how many words the objects of these shapes have together.
func sizeOf(l ...api.Shape) int {
	n := 0
	for _, s := range l {
		n += 1 + s.P + s.R
	}
	return n
}

// numbered returns an arena of n words, all of which differ, and but the first one are neither headers nor pointer words.
func numbered(n int) []uint64 {
	l := make([]uint64, n)
	for i := 1; i < n; i++ {
		l[i] = 1<<40 + uint64(i)
	}
	return l
}

// with returns the arena in which these words are from an address on.
func with(w []uint64, a int, words ...uint64) []uint64 {
	v := slices.Clone(w)
	copy(v[a:a+len(words)], words)
	return v
}

// lain returns the words of objects of these shapes, one after the other; their fields are from a number on, counted over all objects.
func lain(first int, l ...api.Shape) []uint64 {
	var words []uint64
	for _, s := range l {
		words = append(words, headerOf(s))
		for range s.P + s.R {
			words = append(words, uint64(first))
			first++
		}
	}
	return words
}

// cleared returns the words of objects of these shapes, one after the other, whose fields are 0.
func cleared(l ...api.Shape) []uint64 {
	var words []uint64
	for _, s := range l {
		words = append(append(words, headerOf(s)), make([]uint64, s.P+s.R)...)
	}
	return words
}

// call has the arguments of all functions.
type call struct {
	w                       []uint64
	from, top, a, low, high int
	l                       []api.Shape
}

// results calls all functions, and collects what each returns, the error last. A list that is nil becomes an empty one.
func results(c call) [][]any {
	at, e1 := walk.Check(c.w, c.from, c.top)
	all, e2 := walk.Objects(c.w, c.from, c.top)
	object, e3 := walk.Find(c.w, c.from, c.top, c.a)
	slots, e4 := walk.Slots(c.w, c.from, c.top)
	refs, e5 := walk.Refs(c.w, c.from, c.top)
	into, e6 := walk.Into(c.w, c.from, c.top, c.low, c.high)
	n, e7 := walk.Count(c.w, c.from, c.top)
	v, end, e8 := walk.Fill(c.w, c.from, c.top, c.l)
	return [][]any{{at, e1}, {list(all), e2}, {object, e3}, {list(slots), e4}, {list(refs), e5}, {list(into), e6}, {n, e7}, {list(v), end, e8}}
}

// names are those of the functions, in the order of results.
func names() []string {
	return []string{"Check", "Objects", "Find", "Slots", "Refs", "Into", "Count", "Fill"}
}

func list[T any](l []T) []T {
	if len(l) == 0 {
		return []T{}
	}
	return l
}

// zero returns the results of the functions that have these errors; all are those of a walk but the last one, which is that of Fill.
func zero(ofWalk, ofFill api.Errno) [][]any {
	var all [][]any
	for _, v := range []any{0, []int{}, 0, []int{}, []api.WkRef{}, []int{}, api.WkCount{}} {
		all = append(all, []any{v, ofWalk})
	}
	return append(all, []any{[]uint64{}, 0, ofFill})
}

// checkStretch is the error of all functions that comes before they look at words.
func checkStretch(c call) api.Errno {
	switch {
	case len(c.w) == 0 || len(c.w) > maxWords:
		return api.ErrLong
	case c.w[0] != 0:
		return api.ErrForm
	case c.from < 1 || c.top < c.from || c.top > len(c.w):
		return api.ErrRange
	}
	return api.OK
}

// checkShape is the error of header.Check, for numbers that may be any.
func checkShape(s api.Shape) api.Errno {
	switch {
	case s.P < 0 || s.R < 0:
		return api.ErrRange
	case s.P > maxSize || s.R > maxSize || sizeOf(s) > maxSize:
		return api.ErrTooLarge
	}
	return api.OK
}

// shapeOf says which shape a header has.
func shapeOf(v uint64) (api.Shape, bool) {
	s := api.Shape{P: int(v >> 8 & 255), R: int(v >> 16 & 255)}
	return s, checkShape(s) == api.OK && headerOf(s) == v
}

// expected is what all functions return, read from the chapter and not by a lower layer.
func expected(c call) [][]any {
	if e := checkStretch(c); e != api.OK {
		return zero(e, e)
	}
	fill := expectedOfFill(c)
	var all, slots []int
	var refs []api.WkRef
	var into []int
	object, n, refsError := 0, api.WkCount{}, api.OK
	for a := c.from; a < c.top; {
		s, is := shapeOf(c.w[a])
		if !is || a+sizeOf(s) > c.top {
			l := append(zero(api.ErrForm, api.OK)[:7], fill)
			l[0][0] = a
			return l
		}
		all = append(all, a)
		n.Objects, n.Pointers, n.Raws = n.Objects+1, n.Pointers+s.P, n.Raws+s.R
		for i := range s.P {
			slot, v := a+1+i, c.w[a+1+i]
			if v > maxAddress {
				refsError = api.ErrForm
			}
			slots, refs = append(slots, slot), append(refs, api.WkRef{Slot: slot, To: int(v)})
			if v != 0 && int(v) >= c.low && int(v) < c.high {
				into = append(into, slot)
			}
		}
		if a <= c.a && c.a < a+sizeOf(s) {
			object = a
		}
		a += sizeOf(s)
	}
	l := [][]any{{0, api.OK}, {list(all), api.OK}, {object, api.OK}, {list(slots), api.OK}, {list(refs), api.OK}, {list(into), api.OK}, {n, api.OK}, fill}
	if object == 0 {
		l[2][1] = api.ErrNone
	}
	if refsError != api.OK {
		l[4], l[5] = []any{[]api.WkRef{}, refsError}, []any{[]int{}, refsError}
	}
	return l
}

// expectedOfFill is what Fill returns for a stretch.
func expectedOfFill(c call) []any {
	for _, s := range c.l {
		if e := checkShape(s); e != api.OK {
			return []any{[]uint64{}, 0, e}
		}
	}
	n := sizeOf(c.l...)
	if n > c.top-c.from {
		return []any{[]uint64{}, 0, api.ErrFull}
	}
	return []any{with(c.w, c.from, cleared(c.l...)...), c.from + n, api.OK}
}

// edgeNumbers are numbers that are near addresses and sizes, and far from them.
func edgeNumbers() []int {
	return []int{math.MinInt, math.MinInt + 1, math.MinInt + 64, math.MinInt32, -1601, -1600, -64, -2, -1, 0, 1, 2, 3, 4, 5, 7, 8, 9, 11, 12, 13,
		63, 64, 65, 256, 1599, 1600, 1601, 1602, 65793, math.MaxInt32, 1 << 32, 1<<32 + 1, 1 << 62, math.MaxInt - 64, math.MaxInt - 1, math.MaxInt}
}

// badHeaders are words that are no headers, though some nearly are.
func badHeaders() []uint64 {
	return []uint64{0, 2, 3, 256, 258, 1282, 2 + 256*1600, 66048, 66051, 16777217, 1 + 40<<8 + 24<<16, 1 + 64<<8, 1 + 64<<16, 1<<32 + 1, 1<<63 + 1, math.MaxUint64}
}

// dice returns numbers that are the same in each run.
func dice() *rand.Rand { return rand.New(rand.NewSource(1)) }

// one returns any one of them.
func one[T any](r *rand.Rand, l []T) T { return l[r.Intn(len(l))] }

// anyShapes returns up to n shapes of few fields.
func anyShapes(r *rand.Rand, n int) []api.Shape {
	l := make([]api.Shape, r.Intn(n+1))
	for i := range l {
		l[i] = api.Shape{P: r.Intn(4), R: r.Intn(3)}
	}
	return l
}

// anyFilled returns an arena with a stretch that is filled, in which all pointer words hold addresses, and words around it.
func anyFilled(r *rand.Rand) (w []uint64, from, top int) {
	l := anyShapes(r, 8)
	words := lain(0, l...)
	for _, i := range fieldsOf(l) {
		words[i] = uint64(r.Intn(12))
	}
	from = 1 + r.Intn(4)
	top = from + len(words)
	return with(numbered(top+r.Intn(4)), from, words...), from, top
}

// fieldsOf returns where the fields of objects of these shapes are, if the first object is at 0.
func fieldsOf(l []api.Shape) []int {
	var all []int
	a := 0
	for _, s := range l {
		for range s.P + s.R {
			a++
			all = append(all, a)
		}
		a++
	}
	return all
}

// anyCall returns arguments that are good, or nearly.
func anyCall(r *rand.Rand) call {
	w, from, top := anyFilled(r)
	return call{w: w, from: from, top: top, a: r.Intn(len(w) + 2), low: r.Intn(10), high: r.Intn(14), l: anyShapes(r, 6)}
}

// spoil replaces one of the arguments that are numbers, or a word, or a shape.
func spoil(r *rand.Rand, c *call) {
	switch r.Intn(5) {
	case 0:
		*one(r, []*int{&c.from, &c.top, &c.a, &c.low, &c.high}) = one(r, edgeNumbers())
	case 1:
		*one(r, []*int{&c.from, &c.top, &c.a}) += r.Intn(9) - 4
	case 2:
		c.w[r.Intn(len(c.w))] = one(r, append(badHeaders(), 1, 257, 513, 65537, 65793, 1599, 1600, 1601, 2048, 1<<32))
	case 3:
		c.l = append(c.l, api.Shape{P: one(r, edgeNumbers()), R: one(r, edgeNumbers())})
	default:
		c.l = append(c.l, anyShapes(r, 6)...)
	}
}
