package captain

import (
	"iter"
	"slices"

	"bathyal/api"
)

// of yields the numbers of all acts of a kind that were done, in order.
func (c *Captain) of(kind api.CaptainKind) iter.Seq[[]int] {
	return func(yield func([]int) bool) {
		for _, a := range c.done {
			if a.Kind == kind && !yield(a.Numbers) {
				return
			}
		}
	}
}

// about yields the numbers of those acts of a kind that were done with a bed, a man or a person, which is the first number of them.
func (c *Captain) about(kind api.CaptainKind, number int) iter.Seq[[]int] {
	return func(yield func([]int) bool) {
		for numbers := range c.of(kind) {
			if numbers[0] == number && !yield(numbers) {
				return
			}
		}
	}
}

// canCut reports whether a bed was not cut, and a boat is left for it. Each boat cuts one bed.
func (c *Captain) canCut(bed int) bool {
	_, wasCut := last(c.about(api.CaptainCut, bed))
	boats := c.ground.Boats
	for range c.of(api.CaptainCut) {
		boats--
	}
	return !wasCut && boats > 0
}

// pieces returns the sum of all cuts.
func (c *Captain) pieces() int {
	pieces := 0
	for numbers := range c.of(api.CaptainCut) {
		pieces += numbers[1]
	}
	return pieces
}

// stages returns the stages of a man.
func (c *Captain) stages(man int) []api.GasStage {
	var stages []api.GasStage
	for numbers := range c.about(api.CaptainDive, man) {
		stages = append(stages, stagesOf(numbers)...)
	}
	return stages
}

// fateOf returns the fate that a person has so far.
func (c *Captain) fateOf(person int) api.ShareFate {
	if numbers, has := last(c.about(api.CaptainFate, person)); has {
		return api.ShareFate(numbers[1])
	}
	return api.ShareStays
}

// season returns the season with all landings, and the fates that persons have so far.
func (c *Captain) season() api.ShareSeason {
	s := api.ShareSeason{Persons: slices.Clone(c.persons)}
	for person := range s.Persons {
		s.Persons[person].Fate = c.fateOf(person)
	}
	for numbers := range c.of(api.CaptainLand) {
		s.Landings = append(s.Landings, c.landingOf(numbers))
	}
	return s
}

// sorted returns the sorted bales of each grade of the marts.
func (c *Captain) sorted() []int {
	sorted := make([]int, c.grades())
	for numbers := range c.of(api.CaptainSort) {
		sorted[c.gradeOf(numbers)]++
	}
	return sorted
}

// sale returns all that was sold.
func (c *Captain) sale() [][]int {
	var sale [][]int
	for range c.marts {
		sale = append(sale, make([]int, c.grades()))
	}
	for numbers := range c.of(api.CaptainSell) {
		sale[numbers[0]][numbers[1]] += numbers[2]
	}
	return sale
}

// store returns the store of all sorted bales.
func (c *Captain) store() api.MarketStore {
	return api.MarketStore{Stock: c.sorted(), Marts: c.marts}
}

// rest returns the store of the bales that are not sold, with marts that take fewer by all that was sold in them.
func (c *Captain) rest() api.MarketStore {
	s := api.MarketStore{Stock: c.sorted(), Marts: slices.Clone(c.marts)}
	for mart, row := range c.sale() {
		for grade, bales := range row {
			s.Stock[grade] -= bales
			s.Marts[mart].Takes -= bales
		}
	}
	return s
}
