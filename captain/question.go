package captain

import (
	"slices"

	"bathyal/api"
	"bathyal/beds"
	"bathyal/gas"
	"bathyal/market"
	"bathyal/share"
)

// most returns the most pieces that can be cut of a bed.
func (c *Captain) most(numbers []int) []int {
	bed := numbers[0]
	insist(c.isBed(bed), api.ErrArg)
	if !c.canCut(bed) {
		return []int{0}
	}
	pieces, _ := beds.Most(c.ground.Beds[bed])
	return []int{pieces}
}

// stop returns the best stop of a man.
func (c *Captain) stop(numbers []int) []int {
	man := numbers[0]
	insist(c.isMan(man), api.ErrArg)
	stages := c.stages(man)
	insist(len(stages) < api.GasStages, api.ErrRule)
	s, e := gas.Stop(c.table, c.men[man], stages)
	insist(e == api.OK, e)
	return []int{s.Depth, s.Minutes}
}

// held returns what each compartment of a man holds at the last moment.
func (c *Captain) held(numbers []int) []int {
	man := numbers[0]
	insist(c.isMan(man), api.ErrArg)
	moments, _ := gas.Known(c.table, c.men[man], c.stages(man))
	spans, _ := last(slices.Values(moments))
	return ends(spans...)
}

// end returns what a person has in the end.
func (c *Captain) end(numbers []int) []int {
	person := numbers[0]
	insist(c.isPerson(person), api.ErrArg)
	all, _, _ := share.Settle(c.season())
	has := all[person]
	return []int{has.Share, has.Off, has.Paid, has.Owed, has.Struck}
}

// box returns what is in the box.
func (c *Captain) box([]int) []int {
	_, box, _ := share.Settle(c.season())
	return []int{box}
}

// stock returns how many bales of each grade are not sold.
func (c *Captain) stock([]int) []int { return c.rest().Stock }

// sure returns the least and the most that all that was sold can bring.
func (c *Captain) sure([]int) []int {
	brings, _ := market.Sure(c.store(), c.sale())
	return ends(brings)
}

// best returns the best sale of the bales that are not sold, and the least and the most that it can bring.
func (c *Captain) best([]int) []int {
	sale, brings, _ := market.Sell(c.rest())
	return slices.Concat(slices.Concat(sale...), ends(brings))
}
