package config

import "shunter/api"

// nursery stands for the nursery where a car is asked for.
const nursery = -1

// firstAddress is where the nursery begins: the address 0 belongs to nothing.
const firstAddress = 1

// Space returns the first address of a car or of the nursery, and the one after its last one.
func Space(c api.Config, car int) (start, end int, e api.Errno) {
	if e := Check(c); e != api.OK {
		return 0, 0, e
	}
	if car < nursery || car >= c.N {
		return 0, 0, api.ErrRange
	}
	if car == nursery {
		return firstAddress, firstOfCars(c), api.OK
	}
	start = firstOfCars(c) + car*c.C
	return start, start + c.C, api.OK
}

// Car returns in which car an address is.
func Car(c api.Config, a int) (car int, e api.Errno) {
	car, _, e = Place(c, a)
	return car, e
}

// Place returns in which car an address is, and how far it is from the car's first one.
func Place(c api.Config, a int) (car, offset int, e api.Errno) {
	end, e := Words(c)
	if e != api.OK {
		return 0, 0, e
	}
	if a < firstAddress || a >= end {
		return 0, 0, api.ErrRange
	}
	if a < firstOfCars(c) {
		return nursery, a - firstAddress, api.OK
	}
	n := a - firstOfCars(c)
	return n / c.C, n % c.C, api.OK
}

// Address returns the address that is so far from the first one of a car.
func Address(c api.Config, car, offset int) (a int, e api.Errno) {
	start, end, e := Space(c, car)
	if e != api.OK {
		return 0, e
	}
	if offset < 0 || offset >= end-start {
		return 0, api.ErrRange
	}
	return start + offset, api.OK
}

// firstOfCars returns where the cars begin: the nursery is before them.
func firstOfCars(c api.Config) int { return firstAddress + c.S }
