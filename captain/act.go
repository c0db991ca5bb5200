package captain

import (
	"slices"

	"bathyal/api"
	"bathyal/beds"
	"bathyal/gas"
	"bathyal/loft"
	"bathyal/market"
	"bathyal/share"
)

// cut gives up if a cut is not allowed.
func (c *Captain) cut(numbers []int) {
	bed, pieces := numbers[0], numbers[1]
	insist(c.isBed(bed), api.ErrArg)
	insist(c.canCut(bed), api.ErrRule)
	may, _ := beds.May(c.ground.Beds[bed], pieces)
	insist(may, api.ErrRule)
}

// dive gives up if a dive is not allowed.
func (c *Captain) dive(numbers []int) {
	man := numbers[0]
	insist(c.isMan(man), api.ErrArg)
	stages := slices.Concat(c.stages(man), stagesOf(numbers))
	surely, e := gas.Surely(c.table, c.men[man], stages)
	insist(e == api.OK, e)
	insist(surely, api.ErrRule)
}

// land gives up if a landing is not allowed.
func (c *Captain) land(numbers []int) {
	s := c.season()
	s.Landings = append(s.Landings, c.landingOf(numbers))
	insist(share.Check(s) == api.OK, api.ErrArg)
	for _, person := range numbers[beforeCrew:] {
		man := manOf(person)
		insist(s.Persons[person].Fate == api.ShareStays, api.ErrRule)
		insist(!c.isMan(man) || len(c.stages(man)) > 0, api.ErrRule)
	}
}

// sort gives up if a sponge cannot be sorted.
func (c *Captain) sort(numbers []int) {
	grade := c.gradeOf(numbers)
	sorted := c.sorted()
	insist(sum(sorted...) < c.pieces() && sorted[grade] < api.MarketBales, api.ErrRule)
}

// sell gives up if some bales cannot be sold.
func (c *Captain) sell(numbers []int) {
	mart, grade, bales := numbers[0], numbers[1], numbers[2]
	insist(c.isMart(mart) && c.isGrade(grade) && bales > 0, api.ErrArg)
	sale := c.sale()
	sale[mart][grade] += bales
	_, e := market.Sure(c.store(), sale)
	insist(e == api.OK, api.ErrRule)
}

// fate gives up if a person cannot have a fate.
func (c *Captain) fate(numbers []int) {
	person, fate := numbers[0], api.ShareFate(numbers[1])
	insist(c.isPerson(person) && person != house, api.ErrArg)
	insist(fate == api.ShareDeserts || fate == api.ShareDies, api.ErrArg)
	insist(c.fateOf(person) == api.ShareStays, api.ErrRule)
}

// stagesOf returns the stages of the numbers of a dive.
func stagesOf(numbers []int) []api.GasStage {
	var stages []api.GasStage
	for i := range (len(numbers) - beforeStages) / ofStage {
		n := numbers[beforeStages+ofStage*i:]
		stages = append(stages, api.GasStage{Depth: api.Span{Low: n[0], High: n[1]}, Minutes: api.Span{Low: n[2], High: n[3]}})
	}
	return stages
}

// landingOf returns the landing of some numbers, and gives up if its persons are not in increasing order, or if there is one whom there is not.
func (c *Captain) landingOf(numbers []int) api.ShareLanding {
	g := api.ShareLanding{Gross: numbers[0], Costs: numbers[1]}
	next := 0
	for _, person := range numbers[beforeCrew:] {
		insist(c.isPerson(person) && person >= next, api.ErrArg)
		g.Crew |= 1 << person
		next = person + 1
	}
	return g
}

// gradeOf returns the grade of the marts that a sponge surely is, which was read with some numbers, and gives up if there is none.
func (c *Captain) gradeOf(numbers []int) int {
	grades := c.could(numbers)
	insist(len(grades) == 1 && c.isGrade(grades[0]), api.ErrRule)
	return grades[0]
}

// readingOf returns the reading of some numbers.
func readingOf(numbers []int) api.LoftReading {
	return api.LoftReading{Forms: numbers[0], Pore: numbers[1], Size: numbers[2]}
}

// could returns the grades that a sponge can be that was read with some numbers.
func (c *Captain) could(numbers []int) []int {
	grades, e := loft.Could(c.rule, readingOf(numbers))
	insist(e == api.OK, e)
	return grades
}
