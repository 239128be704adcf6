package walk

import (
	"cmp"
	"iter"

	"shunter/api"
	"shunter/arena"
	"shunter/objects"
)

// firstAddress is the first address of a stretch: the word 0 belongs to no object.
const firstAddress = 1

// stretch is an arena, and the words of it that objects have to fill: those from an address on, up to the one before top.
type stretch struct {
	arena     []uint64
	from, top int
}

// gap is what ends a walk by a panic: the address at which there has to be an object, and is none.
type gap int

// check says whether it is a stretch; its words are not looked at.
func (s stretch) check() api.Errno {
	if e := arena.Check(s.arena); e != api.OK {
		return e
	}
	if s.from < firstAddress || s.top < s.from || s.top > len(s.arena) {
		return api.ErrRange
	}
	return api.OK
}

// all yields the objects, ascending. A caller of each need not ask after every object whether there was one: a gap goes past it to where the walk began.
func (s stretch) all() iter.Seq[int] {
	return func(yield func(object int) bool) {
		for a := s.from; a < s.top; {
			n, e := objects.Size(s.arena, a)
			// The arena may go on behind the stretch, and an object with it.
			if e != api.OK || n > s.top-a {
				panic(gap(a))
			}
			if !yield(a) {
				return
			}
			a += n
		}
	}
}

// each does something with each object, until there is a gap: then it returns where this is.
func (s stretch) each(do func(object int)) (at int, e api.Errno) {
	if e := s.check(); e != api.OK {
		return 0, e
	}
	defer func() {
		if g, is := recover().(gap); is {
			at, e = int(g), api.ErrForm
		}
	}()
	for object := range s.all() {
		do(object)
	}
	return 0, api.OK
}

// collect returns what is found in each object, one after the other. A gap counts before what is wrong in an object, also if it comes behind it.
func collect[T any](s stretch, find func(w []uint64, object int) ([]T, api.Errno)) ([]T, api.Errno) {
	var l []T
	wrong := api.OK
	_, e := s.each(func(object int) {
		found, e := find(s.arena, object)
		l, wrong = append(l, found...), cmp.Or(wrong, e)
	})
	if e := cmp.Or(e, wrong); e != api.OK {
		return nil, e
	}
	return l, api.OK
}
