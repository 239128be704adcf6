package objects_test

import (
	"math"
	"math/rand"
	"slices"

	"shunter/api"
	"shunter/objects"
)

// Limits of sizes, addresses and arenas, as the chapters have them.
const (
	maxSize    = 64
	maxAddress = 1600
	maxWords   = 1601
)

// example is the arena W of the chapter's examples.
func example() []uint64 { return []uint64{0, 0, 0, 66049, 7, 0, 99, 0, 0, 0} }

// headerOf returns the header of a shape.
func headerOf(s api.Shape) uint64 { return 1 + 256*uint64(s.P) + 65536*uint64(s.R) }

// shapes returns all shapes, whatever their sizes.
func shapes() []api.Shape {
	var l []api.Shape
	for p := range maxSize {
		for r := range maxSize - p {
			l = append(l, api.Shape{P: p, R: r})
		}
	}
	return l
}

// fewShapes returns shapes of the least and the greatest sizes, and some between them.
func fewShapes() []api.Shape {
	return []api.Shape{{}, {P: 1}, {R: 1}, {P: 1, R: 1}, {P: 2, R: 1}, {P: 1, R: 2}, {P: 3}, {R: 3}, {P: 7, R: 9}, {P: 63}, {R: 63}, {P: 40, R: 23}, {P: 1, R: 62}}
}

// numbered returns an arena of n words, all of which differ, and but the first one hold no address.
func numbered(n int) []uint64 {
	l := make([]uint64, n)
	for i := 1; i < n; i++ {
		l[i] = 1<<40 + uint64(i)
	}
	return l
}

// with returns the arena in which these words are from an address on.
func with(w []uint64, a int, words ...uint64) []uint64 {
	v := slices.Clone(w)
	copy(v[a:a+len(words)], words)
	return v
}

// filled returns an arena of n words, of which all but the first one are not 0, with an object at a whose fields are 1, 2, 3 ..
func filled(n, a int, s api.Shape) []uint64 {
	w := with(numbered(n), a, headerOf(s))
	for i := range s.P + s.R {
		w[a+1+i] = uint64(i + 1)
	}
	return w
}

// call has the arguments of all functions.
type call struct {
	w               []uint64
	a, b, field, to int
	s               api.Shape
	v               uint64
}

// results calls all functions, and collects what each returns, the error last. A list that is nil becomes an empty one.
func results(c call) [][]any {
	made, e1 := objects.Make(c.w, c.a, c.s)
	s, e2 := objects.Shape(c.w, c.a)
	n, e3 := objects.Size(c.w, c.a)
	slots, e4 := objects.Slots(c.w, c.a)
	p, e5 := objects.Pointer(c.w, c.a, c.field)
	all, e6 := objects.Pointers(c.w, c.a)
	r, e7 := objects.Raw(c.w, c.a, c.field)
	pointed, e8 := objects.SetPointer(c.w, c.a, c.field, c.to)
	set, e9 := objects.SetRaw(c.w, c.a, c.field, c.v)
	is, e10 := objects.Alike(c.w, c.a, c.b)
	return [][]any{{list(made), e1}, {s, e2}, {n, e3}, {list(slots), e4}, {p, e5}, {list(all), e6}, {r, e7}, {list(pointed), e8}, {list(set), e9}, {is, e10}}
}

// names are those of the functions, in the order of results.
func names() []string {
	return []string{"Make", "Shape", "Size", "Slots", "Pointer", "Pointers", "Raw", "SetPointer", "SetRaw", "Alike"}
}

func list[T any](l []T) []T {
	if len(l) == 0 {
		return []T{}
	}
	return l
}

// zero returns the results of the functions that have these errors.
func zero(errors ...api.Errno) [][]any {
	words, l := []uint64{}, []int{}
	values := []any{words, api.Shape{}, 0, l, 0, l, uint64(0), words, words, false}
	var all [][]any
	for i, v := range values {
		all = append(all, []any{v, errors[i]})
	}
	return all
}

// checkArena is the error of arena.Check.
func checkArena(w []uint64) api.Errno {
	switch {
	case len(w) == 0 || len(w) > maxWords:
		return api.ErrLong
	case w[0] != 0:
		return api.ErrForm
	}
	return api.OK
}

// checkShape is the error of header.Check, for numbers that may be any.
func checkShape(s api.Shape) api.Errno {
	switch {
	case s.P < 0 || s.R < 0:
		return api.ErrRange
	case s.P > maxSize || s.R > maxSize || 1+s.P+s.R > maxSize:
		return api.ErrTooLarge
	}
	return api.OK
}

// checkObject is the error of all functions but Make, in a good arena, for an address.
func checkObject(w []uint64, a int) api.Errno {
	if a < 1 || a >= len(w) {
		return api.ErrRange
	}
	s, is := shapeAt(w, a)
	if !is || a+1+s.P+s.R > len(w) {
		return api.ErrForm
	}
	return api.OK
}

// shapeAt says which shape has the header that is the word at an address.
func shapeAt(w []uint64, a int) (api.Shape, bool) {
	v := w[a]
	s := api.Shape{P: int(v >> 8 & 255), R: int(v >> 16 & 255)}
	return s, checkShape(s) == api.OK && headerOf(s) == v
}

// expected is what results has to be, as the chapter has it.
func expected(c call) [][]any {
	if e := checkArena(c.w); e != api.OK {
		return zero(slices.Repeat([]api.Errno{e}, 10)...)
	}
	var l [][]any
	if e := checkObject(c.w, c.a); e != api.OK {
		l = zero(slices.Repeat([]api.Errno{e}, 10)...)
	} else {
		l = expectedOfObject(c)
	}
	l[0] = expectedOfMake(c)
	return l
}

func expectedOfMake(c call) []any {
	e := checkShape(c.s)
	if e == api.OK && (c.a < 1 || c.a >= len(c.w) || c.a+1+c.s.P+c.s.R > len(c.w)) {
		e = api.ErrRange
	}
	if e != api.OK {
		return []any{[]uint64{}, e}
	}
	return []any{with(c.w, c.a, append([]uint64{headerOf(c.s)}, make([]uint64, c.s.P+c.s.R)...)...), api.OK}
}

// expectedOfObject is it where there is an object; its first result stands for that of Make.
func expectedOfObject(c call) [][]any {
	s, _ := shapeAt(c.w, c.a)
	first := c.a + 1
	l := zero(0, 0, 0, 0, api.ErrBad, 0, api.ErrBad, api.ErrBad, api.ErrBad, 0)
	l[1][0], l[2][0] = s, 1+s.P+s.R
	slots, all := []int{}, []int{}
	for i := range s.P {
		slots = append(slots, first+i)
		all = append(all, int(c.w[first+i]))
	}
	l[3][0], l[5][0] = slots, all
	if slices.ContainsFunc(c.w[first:first+s.P], func(v uint64) bool { return v > maxAddress }) {
		l[5] = []any{[]int{}, api.ErrForm}
	}
	if c.field >= 0 && c.field < s.P {
		l[4], l[7] = expectedOfPointer(c, first+c.field)
	}
	if c.field >= 0 && c.field < s.R {
		a := first + s.P + c.field
		l[6], l[8] = []any{c.w[a], api.OK}, []any{with(c.w, a, c.v), api.OK}
	}
	is, e := expectedOfAlike(c)
	l[9] = []any{is, e}
	return l
}

// expectedOfPointer is what Pointer and SetPointer return for a pointer field at an address.
func expectedOfPointer(c call, a int) (get, set []any) {
	get, set = []any{0, api.ErrForm}, []any{[]uint64{}, api.ErrRange}
	if c.w[a] <= maxAddress {
		get = []any{int(c.w[a]), api.OK}
	}
	if c.to >= 0 && c.to < len(c.w) {
		set = []any{with(c.w, a, uint64(c.to)), api.OK}
	}
	return get, set
}

// expectedOfAlike is what Alike returns if there is an object at the first address.
func expectedOfAlike(c call) (bool, api.Errno) {
	if e := checkObject(c.w, c.b); e != api.OK {
		return false, e
	}
	s, _ := shapeAt(c.w, c.a)
	t, _ := shapeAt(c.w, c.b)
	if s != t {
		return false, api.OK
	}
	for i := range s.R {
		if c.w[c.a+1+s.P+i] != c.w[c.b+1+s.P+i] {
			return false, api.OK
		}
	}
	return true, api.OK
}

// edgeNumbers are numbers that are near addresses, fields, sizes and pointer words, and far from them.
func edgeNumbers() []int {
	return []int{math.MinInt, math.MinInt + 1, math.MinInt + 62, math.MinInt + 63, math.MinInt + 64, math.MinInt32, -1601, -1600, -64, -63, -2, -1,
		0, 1, 2, 3, 4, 5, 6, 7, 9, 10, 11, 32, 62, 63, 64, 65, 256, 1599, 1600, 1601, 1602, 65793, math.MaxInt32, 1 << 32, 1<<32 + 1,
		1 << 62, math.MaxInt - 64, math.MaxInt - 63, math.MaxInt - 1, math.MaxInt}
}

// edgeWords are words that are pointer words, headers and marks, and some that nearly are.
func edgeWords() []uint64 {
	return []uint64{0, 1, 2, 3, 257, 65537, 65793, 66049, 131585, 258, 1282, 66048, 66051, 16777217, 1599, 1600, 1601, 2047, 2048, 4096,
		1 << 16, 1<<32 + 1, 1<<32 + 5, 1<<63 + 1, 1 << 63, 1<<63 + 66049, math.MaxUint64 - 1, math.MaxUint64}
}

// dice returns numbers that are the same in each run.
func dice() *rand.Rand { return rand.New(rand.NewSource(1)) }

// one returns any one of them.
func one[T any](r *rand.Rand, l []T) T { return l[r.Intn(len(l))] }

// anyArena returns an arena of few words, in which there often are objects, of which some go beyond its end.
func anyArena(r *rand.Rand) []uint64 {
	w := make([]uint64, 1+r.Intn(16))
	for i := range w[1:] {
		switch r.Intn(3) {
		case 0:
			w[1+i] = uint64(r.Intn(3))
		case 1:
			w[1+i] = headerOf(api.Shape{P: r.Intn(4), R: r.Intn(4)})
		default:
			w[1+i] = one(r, edgeWords())
		}
	}
	return w
}

// anyCall returns arguments that are mostly good for an arena.
func anyCall(r *rand.Rand, w []uint64) call {
	return call{w: w, a: r.Intn(len(w) + 1), b: r.Intn(len(w) + 1), field: r.Intn(5) - 1, to: r.Intn(len(w)+2) - 1,
		s: api.Shape{P: r.Intn(5) - 1, R: r.Intn(5) - 1}, v: one(r, edgeWords())}
}

// spoil replaces one of the arguments that are numbers.
func spoil(r *rand.Rand, c *call) {
	*one(r, []*int{&c.a, &c.b, &c.field, &c.to, &c.s.P, &c.s.R}) = one(r, edgeNumbers())
}
