package remset

import (
	"iter"
	"slices"

	"shunter/api"
	"shunter/config"
	"shunter/slots"
)

// Numbers of sets beside those of the cars.
const (
	nursery = -1 // config has this number for it, too
	none    = -2
)

// place is a slot in a set. It means the same in whichever cell of the table the slot is.
type place struct{ set, slot int }

// all yields all sets with their numbers: those of the cars, ascending, and that of the nursery as the last one.
func all(s api.RmSets) iter.Seq2[int, api.SlSet] {
	return func(yield func(n int, t api.SlSet) bool) {
		for car, t := range s.Cars {
			if !yield(car, t) {
				return
			}
		}
		yield(nursery, s.Nursery)
	}
}

// find returns where the set with a number is, so that it can be replaced; nil if there is none.
func find(s *api.RmSets, n int) *api.SlSet {
	switch {
	case n == nursery:
		return &s.Nursery
	case n >= 0 && n < len(s.Cars):
		return &s.Cars[n]
	}
	return nil
}

// clone returns the sets in memory of their own.
func clone(s api.RmSets) api.RmSets {
	own := api.RmSets{Cars: make([]api.SlSet, len(s.Cars))}
	for n, t := range all(s) {
		*find(&own, n) = api.SlSet{Cells: slices.Clone(t.Cells)}
	}
	return own
}

// change returns the sets in which a slot was dropped from one, and then added to one; either number may be none.
func change(s api.RmSets, slot, from, to int) (api.RmSets, api.Errno) {
	own := clone(s)
	e := api.OK
	if t := find(&own, from); t != nil {
		if *t, _, e = slots.Drop(*t, slot); e != api.OK {
			return api.RmSets{}, e
		}
	}
	if t := find(&own, to); t != nil {
		if *t, _, e = slots.Add(*t, slot); e != api.OK {
			return api.RmSets{}, e
		}
	}
	return own, api.OK
}

// setFor returns the number of the set into which a slot belongs for a target: none if it is not remembered.
func setFor(c api.Config, slot, target int) (n int, e api.Errno) {
	from, e := config.Car(c, slot)
	if e != api.OK || target == 0 {
		return none, e
	}
	to, e := config.Car(c, target)
	if e != api.OK || from == nursery || from == to {
		return none, e
	}
	return to, api.OK
}

// checkSet says whether the set with a number is a good table, whose slots are in cars, and not in the one that they point into.
func checkSet(c api.Config, n int, t api.SlSet) api.Errno {
	l, e := slots.List(t)
	if e != api.OK {
		return e
	}
	for _, slot := range l {
		from, e := config.Car(c, slot)
		if e != api.OK || from == nursery || from == n {
			return api.ErrRange
		}
	}
	return api.OK
}

// spaceOf returns the addresses of a car, but not those of the nursery.
func spaceOf(c api.Config, car int) (start, end int, e api.Errno) {
	if car == nursery {
		return 0, 0, api.ErrRange
	}
	return config.Space(c, car)
}

// places returns all slots of all sets in their places.
func places(s api.RmSets) (map[place]bool, api.Errno) {
	met := map[place]bool{}
	for n, t := range all(s) {
		l, e := slots.List(t)
		if e != api.OK {
			return nil, e
		}
		for _, slot := range l {
			met[place{n, slot}] = true
		}
	}
	return met, api.OK
}
