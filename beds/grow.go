package beds

import (
	"sort"

	"bathyal/api"
)

// The classes that are cut, and that a cut leaves.
const (
	feet  = 0
	large = api.BedsClasses - 1
)

// classes is how many sponges of each class there are.
type classes [api.BedsClasses]int

// growth is how many sponges of each class but the last come into the next one.
type growth [large]int

// after returns what a cut leaves.
func (c classes) after(cut int) classes {
	c[large] -= cut
	c[feet] += cut
	return c
}

// part returns how many grow at a rate.
func (c classes) part(rate int) growth {
	var g growth
	for class := range g {
		g[class] = c[class] * rate / api.BedsWhole
	}
	return g
}

// grow returns the classes when some have grown.
func (c classes) grow(g growth) classes {
	for class, n := range g {
		c[class] -= n
		c[class+1] += n
	}
	return c
}

// from returns how many sponges of a class and of all greater ones there are.
func (c classes) from(class int) int {
	sum := 0
	for _, n := range c[class:] {
		sum += n
	}
	return sum
}

// end is an end of what is known.
type end int

// The ends.
const (
	low end = iota
	high
	ends
)

// aged is a bed after some years, in the truth with the fewest sponges and in the one with the most.
//
// These two truths reach all ends at once: whoever counts a class with all greater ones, and counts more, never counts fewer a year later.
type aged struct {
	api.BedsBed
	held [ends]classes
}

// young returns a bed at the beginning of the year 0.
func young(b api.BedsBed) aged {
	a := aged{BedsBed: b}
	for class, s := range b.Start {
		a.held[low][class], a.held[high][class] = s.Low, s.High
	}
	return a
}

// least returns how many sponges of a class and of all greater ones there surely are.
func (a aged) least(class int) int { return a.held[low].from(class) }

// greatest returns how many sponges of a class and of all greater ones there can be.
func (a aged) greatest(class int) int { return a.held[high].from(class) }

// year returns the bed one year later, cut at the beginning of that year.
func (a aged) year(cut int) aged {
	rates := [ends]int{low: a.Low, high: a.High}
	for e, rate := range rates {
		left := a.held[e].after(cut)
		a.held[e] = left.grow(left.part(rate))
	}
	return a
}

// lawful reports whether the bed can be cut so now.
func (a aged) lawful(cut int) bool {
	sure := a.least(large)
	if cut < 1 || sure < a.Full || sure-cut < a.Leave {
		return false
	}
	later := a.year(cut)
	for range a.Within - 1 {
		later = later.year(0)
	}
	return later.least(large) >= a.Full
}

// most returns the greatest lawful cut, or 0. A smaller cut than a lawful one is lawful too, since it leaves no fewer sponges of any class with all greater ones.
func (a aged) most() int {
	return sort.Search(a.least(large), func(cut int) bool { return !a.lawful(cut + 1) })
}
