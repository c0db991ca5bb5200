package beds

import (
	"slices"

	"bathyal/api"
)

// Run returns the sponges of each class of each bed at the end of each year, in truth.
func Run(g api.BedsGround, cuts [][]int, t api.BedsTruth) ([][][]int, api.Errno) {
	if Check(g) != api.OK || !shaped(g, cuts) || !begins(g, t) || len(t.Grown) != g.Years {
		return nil, api.ErrArg
	}
	now := make([]classes, len(g.Beds))
	for bed, start := range t.Start {
		copy(now[bed][:], start)
	}
	run := make([][][]int, g.Years)
	for year := range g.Years {
		if len(t.Grown[year]) != len(g.Beds) {
			return nil, api.ErrArg
		}
		run[year] = make([][]int, len(g.Beds))
		for bed, b := range g.Beds {
			next, ok := follow(b, now[bed], cuts[year][bed], t.Grown[year][bed])
			if !ok {
				return nil, api.ErrArg
			}
			now[bed] = next
			run[year][bed] = slices.Clone(next[:])
		}
	}
	return run, api.OK
}

// begins reports whether the beds of a truth begin between their bounds.
func begins(g api.BedsGround, t api.BedsTruth) bool {
	if len(t.Start) != len(g.Beds) {
		return false
	}
	for bed, b := range g.Beds {
		if len(t.Start[bed]) != api.BedsClasses {
			return false
		}
		for class, s := range b.Start {
			if !within(t.Start[bed][class], s.Low, s.High) {
				return false
			}
		}
	}
	return true
}

// follow returns the classes of a bed after a year in truth, or false if that year cannot be.
func follow(b api.BedsBed, now classes, cut int, grown []int) (classes, bool) {
	if cut > now[large] || len(grown) != large {
		return classes{}, false
	}
	left := now.after(cut)
	fewest, most := left.part(b.Low), left.part(b.High)
	var g growth
	for class, n := range grown {
		if !within(n, fewest[class], most[class]) {
			return classes{}, false
		}
		g[class] = n
	}
	return left.grow(g), true
}
