package words_test

import (
	"math/rand"
	"unsafe"

	"shunter/api"
)

// each calls do for all strings of at most n bytes over an alphabet.
func each(alphabet string, n int, do func(s string)) {
	do("")
	var grow func(s string)
	grow = func(s string) {
		if len(s) == n {
			return
		}
		for i := 0; i < len(alphabet); i++ {
			next := s + alphabet[i:i+1]
			do(next)
			grow(next)
		}
	}
	grow("")
}

// dice returns numbers that are the same in each run.
func dice() *rand.Rand { return rand.New(rand.NewSource(1)) }

// anyString returns a string of at most most bytes, many of which have a meaning in some form.
func anyString(r *rand.Rand, most int) string {
	const special = "\"\\ \n\t\rx-,09af\x00\x7f\x80\xff"
	b := make([]byte, r.Intn(most+1))
	for i := range b {
		if b[i] = byte(r.Intn(256)); r.Intn(2) == 0 {
			b[i] = special[r.Intn(len(special))]
		}
	}
	return string(b)
}

// anyField returns a field that may be in a line.
func anyField(r *rand.Rand) api.Field {
	if r.Intn(2) == 0 {
		return api.Field{S: anyString(r, 6), Quoted: true}
	}
	const bare = "az09-!#$%&'()*+,./:;<=>?@AZ[]^_`{|}~"
	b := make([]byte, 1+r.Intn(5))
	for i := range b {
		b[i] = bare[r.Intn(len(bare))]
	}
	return api.Field{S: string(b)}
}

func anyFields(r *rand.Rand, low, high int) []api.Field {
	l := make([]api.Field, low+r.Intn(high-low+1))
	for i := range l {
		l[i] = anyField(r)
	}
	return l
}

// anyList returns a strictly ascending list of at most most numbers, with some long runs.
func anyList(r *rand.Rand, most int) []int {
	var l []int
	for n := r.Intn(3); len(l) < most && r.Intn(50) > 0; n++ {
		l = append(l, n)
		if r.Intn(3) == 0 {
			n += 1 + r.Intn(1+r.Intn(100000))
		}
	}
	return l
}

// shareMemory reports whether two strings have bytes in the same place.
func shareMemory(a, b string) bool {
	if a == "" || b == "" {
		return false
	}
	p, q := uintptr(unsafe.Pointer(unsafe.StringData(a))), uintptr(unsafe.Pointer(unsafe.StringData(b)))
	return p < q+uintptr(len(b)) && q < p+uintptr(len(a))
}
