package header_test

import (
	"math"
	"math/rand"

	"shunter/api"
)

// sizes are those that shapes have: from 1 to 64.
const (
	minSize = 1
	maxSize = 64
)

// lastAddress is the last one of the largest arena.
const lastAddress = 1600

// isShape says whether a shape is one, as the chapter has it, for numbers that are not too large for a sum.
func isShape(s api.Shape) bool {
	return s.P >= 0 && s.R >= 0 && s.P+s.R+1 <= maxSize
}

// shapes returns all shapes, whatever their sizes.
func shapes() []api.Shape {
	var l []api.Shape
	for p := range maxSize {
		for r := range maxSize {
			if s := (api.Shape{P: p, R: r}); isShape(s) {
				l = append(l, s)
			}
		}
	}
	return l
}

// headers returns the shapes of all headers.
func headers() map[uint64]api.Shape {
	m := map[uint64]api.Shape{}
	for _, s := range shapes() {
		m[1+256*uint64(s.P)+65536*uint64(s.R)] = s
	}
	return m
}

// marks returns the addresses of all marks.
func marks() map[uint64]int {
	m := map[uint64]int{}
	for a := 1; a <= lastAddress; a++ {
		m[2+256*uint64(a)] = a
	}
	return m
}

// eachWord calls look with all words of up to 23 bits, which are more than a header has, with headers and marks of which some bits are others, and with any words.
func eachWord(look func(v uint64)) {
	for v := range uint64(1 << 23) {
		look(v)
	}
	for _, v := range known() {
		for i := range 64 {
			for j := range i + 1 {
				look(v ^ 1<<i ^ 1<<j)
			}
		}
		look(-v)
		look(^v)
	}
	r := dice()
	for range 1000000 {
		v := r.Uint64()
		look(v)
		look(v >> r.Intn(64))
		look(v<<8 | 1)
		look(v<<8 | 2)
	}
	look(math.MaxUint64)
	look(math.MaxUint64 - 1)
}

// known returns all headers and all marks.
func known() []uint64 {
	var l []uint64
	for v := range headers() {
		l = append(l, v)
	}
	for v := range marks() {
		l = append(l, v)
	}
	return l
}

// edgeNumbers are numbers near those of shapes, sizes and addresses, and far from them.
func edgeNumbers() []int {
	return []int{math.MinInt, math.MinInt + 1, math.MinInt + 62, math.MinInt + 63, math.MinInt + 64, math.MinInt32, -65536, -1600, -256, -65, -64, -63, -2, -1,
		0, 1, 2, 3, 31, 32, 33, 62, 63, 64, 65, 66, 255, 256, 257, 1599, 1600, 1601, 1602, 65535, 65536, 1 << 24, math.MaxInt32, 1 << 32, 1<<32 + 1, 1 << 55, 1 << 56, 1<<56 + 1,
		1 << 62, math.MaxInt - 64, math.MaxInt - 63, math.MaxInt - 62, math.MaxInt - 1, math.MaxInt}
}

// dice returns numbers that are the same in each run.
func dice() *rand.Rand { return rand.New(rand.NewSource(1)) }
