package objects

import (
	"shunter/api"
	"shunter/arena"
	"shunter/header"
)

// object is an object that is there.
type object struct {
	shape    api.Shape
	size     int
	pointers pointers
	raws     raws
}

// find returns the object at an address.
func find(w []uint64, a int) (object, api.Errno) {
	h, e := arena.Get(w, a)
	if e != api.OK {
		return object{}, e
	}
	s, e := header.Shape(h)
	if e != api.OK {
		return object{}, e
	}
	n, e := header.Size(s)
	if e != api.OK {
		return object{}, e
	}
	// Near the end of the arena a header may be one of an object whose words are not all there.
	if n > len(w)-a {
		return object{}, api.ErrForm
	}
	first := a + 1
	return object{
		shape:    s,
		size:     n,
		pointers: pointers{fieldsOf(w, first, s.P)},
		raws:     raws{fieldsOf(w, first+s.P, s.R)},
	}, api.OK
}
