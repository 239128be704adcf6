package config

import "shunter/api"

// limit is what a number of a config may be, and the word before it in the text.
type limit struct {
	word      string
	low, high int
	number    func(c *api.Config) *int
}

// limits returns those of all numbers, in the order of the text. It is a function as no table of functions may be at the package level.
func limits() [5]limit {
	return [5]limit{
		{"cars", api.MinCars, api.MaxCars, func(c *api.Config) *int { return &c.N }},
		{"of", api.MinCar, api.MaxCar, func(c *api.Config) *int { return &c.C }},
		{"nursery", api.MinNursery, api.MaxNursery, func(c *api.Config) *int { return &c.S }},
		{"registers", 1, api.MaxRegs, func(c *api.Config) *int { return &c.K }},
		{"popular", api.MinPopular, api.MaxReferrers, func(c *api.Config) *int { return &c.Q }},
	}
}

// nearest returns the config that is within all limits and differs least from c: c itself exactly if it is good.
func nearest(c api.Config) api.Config {
	for _, l := range limits() {
		n := l.number(&c)
		*n = min(max(*n, l.low), l.high)
	}
	return c
}
