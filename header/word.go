package header

import "shunter/api"

// word is a word of an arena, of any kind.
type word uint64

// Kinds of words, with the numbers that api gives them. The lowest part of a header, or a mark, is its kind.
const (
	none = iota
	object
	forwarded
)

// Parts of a word above its kind: in a header pointers and raws, in a mark an address.
const (
	pointers = iota
	raws
	address
)

// partBits is how many bits a part has, but the highest one, which has all that are left.
const partBits = 8

// below returns how many bits of a word are below a part.
func below(part int) int {
	n := 0
	switch part {
	case raws:
		n += partBits
		fallthrough
	case pointers, address:
		n += partBits
	}
	return n
}

// headerOf returns the header of a shape that was checked.
func headerOf(s api.Shape) word {
	return object | word(s.P)<<below(pointers) | word(s.R)<<below(raws)
}

// markOf returns the mark of an address that was checked.
func markOf(a int) word {
	return forwarded | word(a)<<below(address)
}

// kind packs again what the word would say, as only a header, or a mark, comes back then: so no limit of shapes or addresses is told twice.
func (w word) kind() int {
	if v, e := Pack(w.shape()); e == api.OK && word(v) == w {
		return object
	}
	if v, e := Forward(w.target()); e == api.OK && word(v) == w {
		return forwarded
	}
	return none
}

// shape returns what the word says if it is a header.
func (w word) shape() api.Shape {
	return api.Shape{P: int(w >> below(pointers) % (1 << partBits)), R: int(w >> below(raws))}
}

// target returns what the word says if it is a mark.
func (w word) target() int {
	return int(w >> below(address))
}
