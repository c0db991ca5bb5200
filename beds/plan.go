package beds

import (
	"iter"

	"bathyal/api"
)

// past is a bed at the beginning of a year, and the set of earlier years in which it was cut.
type past struct {
	bed  int
	year int
	when int
}

// present is what a past has made of a bed: the bed itself, and its greatest lawful cut.
type present struct {
	aged
	cut int
}

// planner is a ground with what was found of its beds.
type planner struct {
	api.BedsGround
	found map[past]present
}

// present returns what a past has made of a bed.
func (p *planner) present(of past) present {
	if known, ok := p.found[of]; ok {
		return known
	}
	now := young(p.Beds[of.bed])
	if of.year > 0 {
		year := of.year - 1
		before := p.present(past{bed: of.bed, year: year, when: of.when &^ (1 << year)})
		cut := 0
		if of.when&(1<<year) != 0 {
			cut = before.cut
		}
		now = before.year(cut)
	}
	made := present{aged: now, cut: now.most()}
	p.found[of] = made
	return made
}

// newPlanner returns a ground of which nothing was found.
func newPlanner(g api.BedsGround) *planner {
	return &planner{BedsGround: g, found: map[past]present{}}
}

// plan is cuts of some years: the sum of them, and for each bed the set of years in which it is cut.
type plan struct {
	cuts [api.BedsYears][api.BedsFew]int
	sum  int
	when [api.BedsFew]int
}

// with returns the plan with one cut more.
func (p plan) with(year, bed, cut int) plan {
	p.cuts[year][bed] = cut
	p.sum += cut
	p.when[bed] |= 1 << year
	return p
}

// plans yields all lawful plans, in lexicographic order.
func (p *planner) plans() iter.Seq[plan] {
	return func(yield func(plan) bool) {
		var fill func(year, bed, boats int, so plan) bool
		fill = func(year, bed, boats int, so plan) bool {
			if year == p.Years {
				return yield(so)
			}
			if bed == len(p.Beds) {
				return fill(year+1, 0, p.Boats, so)
			}
			if !fill(year, bed+1, boats, so) {
				return false
			}
			cut := p.present(past{bed: bed, year: year, when: so.when[bed]}).cut
			if cut == 0 || boats == 0 {
				return true
			}
			return fill(year, bed+1, boats-1, so.with(year, bed, cut))
		}
		fill(0, 0, p.Boats, plan{})
	}
}

// Plan returns the best plan, and the sum of its cuts.
func Plan(g api.BedsGround) ([][]int, int, api.Errno) {
	if e := Check(g); e != api.OK {
		return nil, 0, e
	}
	found, _ := best(newPlanner(g).plans(), func(a, b plan) bool { return a.sum > b.sum })
	cuts := make([][]int, g.Years)
	for year := range g.Years {
		cuts[year] = make([]int, len(g.Beds))
		copy(cuts[year], found.cuts[year][:])
	}
	return cuts, found.sum, api.OK
}

// Keeps reports whether a plan is lawful.
func Keeps(g api.BedsGround, cuts [][]int) (bool, api.Errno) {
	if Check(g) != api.OK || !shaped(g, cuts) {
		return false, api.ErrArg
	}
	p := newPlanner(g)
	so, keeps := plan{}, true
search:
	for year := range g.Years {
		boats := g.Boats
		for bed, cut := range cuts[year] {
			if cut == 0 {
				continue
			}
			boats--
			if boats < 0 || cut != p.present(past{bed: bed, year: year, when: so.when[bed]}).cut {
				keeps = false
				break search
			}
			so = so.with(year, bed, cut)
		}
	}
	return keeps, api.OK
}

// shaped reports whether there is a number of at least 0 for each year and each bed.
func shaped(g api.BedsGround, cuts [][]int) bool {
	if len(cuts) != g.Years {
		return false
	}
	for _, year := range cuts {
		if len(year) != len(g.Beds) {
			return false
		}
		for _, cut := range year {
			if cut < 0 {
				return false
			}
		}
	}
	return true
}
