package objects

import (
	"slices"

	"shunter/api"
	"shunter/arena"
)

// fields are all fields of one kind of an object: the arena in which they are, the address of the first one, and their words there.
type fields struct {
	arena []uint64
	first int
	words []uint64
}

// pointers are fields that hold addresses.
type pointers struct{ fields }

// raws are fields that hold any words.
type raws struct{ fields }

// fieldsOf returns n fields of an arena, which are all there. Their words end with the last of them, so that nothing behind them is taken for a field.
func fieldsOf(w []uint64, first, n int) fields {
	return fields{arena: w, first: first, words: w[first : first+n : first+n]}
}

// addresses returns where the fields are.
func (f fields) addresses() []int {
	l := make([]int, len(f.words))
	for i := range l {
		l[i] = f.first + i
	}
	return l
}

// check says whether there is such a field.
func (f fields) check(field int) api.Errno {
	if field < 0 || field >= len(f.words) {
		return api.ErrBad
	}
	return api.OK
}

// read returns the word of a field.
func (f fields) read(field int) (uint64, api.Errno) {
	if e := f.check(field); e != api.OK {
		return 0, e
	}
	return f.words[field], api.OK
}

// write returns the arena in which the word of a field is v.
func (f fields) write(field int, v uint64) ([]uint64, api.Errno) {
	if e := f.check(field); e != api.OK {
		return nil, e
	}
	return arena.Set(f.arena, f.first+field, v)
}

// get returns the address that a field holds.
func (p pointers) get(field int) (int, api.Errno) {
	v, e := p.read(field)
	if e != api.OK {
		return 0, e
	}
	return addressIn(v)
}

// all returns the addresses that all fields hold.
func (p pointers) all() ([]int, api.Errno) {
	l := make([]int, len(p.words))
	for i, v := range p.words {
		a, e := addressIn(v)
		if e != api.OK {
			return nil, e
		}
		l[i] = a
	}
	return l, api.OK
}

// set returns the arena in which a field holds the address to. What is read may be an address of any arena, but only one of this arena is written.
func (p pointers) set(field, to int) ([]uint64, api.Errno) {
	if e := p.check(field); e != api.OK {
		return nil, e
	}
	if to < 0 || to >= len(p.arena) {
		return nil, api.ErrRange
	}
	return p.write(field, uint64(to))
}

// equal reports whether the words of both are equal.
func (r raws) equal(s raws) bool { return slices.Equal(r.words, s.words) }

// addressIn returns the address that a pointer word holds.
func addressIn(v uint64) (int, api.Errno) {
	if v > api.MaxAddress {
		return 0, api.ErrForm
	}
	return int(v), api.OK
}
