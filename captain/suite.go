package captain

import (
	"slices"

	"bathyal/api"
	"bathyal/beds"
	"bathyal/gas"
	"bathyal/loft"
	"bathyal/market"
	"bathyal/share"
)

// house is the person who has the hull and the pump; the divers come after the house.
const house = 0

// manOf returns the man who is a person, or a number of which there is none.
func manOf(person int) int { return person - 1 }

// suite is a suite that a Captain keeps. It is not an api.CaptainSuite, since a Captain would give out the fields of that one.
type suite struct {
	ground  api.BedsGround
	table   api.GasTable
	men     []api.GasMan
	persons []api.SharePerson
	rule    api.LoftRule
	marts   []api.MarketMart
}

// Check returns the error of a suite.
func Check(s api.CaptainSuite) api.Errno {
	switch {
	case beds.Check(s.Ground) != api.OK, loft.Check(s.Rule) != api.OK:
	case !areMen(s.Table, s.Men), !arePersons(s.Persons, len(s.Men)), !areMarts(s.Marts):
	default:
		return api.OK
	}
	return api.ErrArg
}

// areMen reports whether a table, and the men for it, are as defined. Layer 2 looks at men together with a dive alone; this one has no stages.
func areMen(t api.GasTable, men []api.GasMan) bool {
	_, e := gas.Crew(t, men, nil)
	return e == api.OK && within(len(men), 1, api.CaptainMen)
}

// arePersons reports whether persons are as defined, if there are so many men.
func arePersons(persons []api.SharePerson, men int) bool {
	goes := func(p api.SharePerson) bool { return p.Fate != api.ShareStays }
	return share.Check(api.ShareSeason{Persons: persons}) == api.OK && !slices.ContainsFunc(persons, goes) && len(persons) > men
}

// areMarts reports whether marts are as defined.
func areMarts(marts []api.MarketMart) bool {
	if len(marts) == 0 {
		return false
	}
	stock := make([]int, len(marts[0].Prices))
	return market.Check(api.MarketStore{Stock: stock, Marts: marts}) == api.OK
}

// copyOf returns a copy of a suite, with which it shares no memory.
func copyOf(s api.CaptainSuite) suite {
	c := suite{
		ground:  api.BedsGround{Beds: slices.Clone(s.Ground.Beds), Boats: s.Ground.Boats, Years: s.Ground.Years},
		table:   api.GasTable{Parts: slices.Clone(s.Table.Parts), Stops: slices.Clone(s.Table.Stops)},
		men:     slices.Clone(s.Men),
		persons: slices.Clone(s.Persons),
		rule:    s.Rule,
		marts:   slices.Clone(s.Marts),
	}
	for i, b := range s.Ground.Beds {
		c.ground.Beds[i].Start = slices.Clone(b.Start)
	}
	for i, m := range s.Men {
		c.men[i].Rates = slices.Clone(m.Rates)
	}
	for i, m := range s.Marts {
		c.marts[i].Prices = slices.Clone(m.Prices)
	}
	c.rule.Grades = slices.Clone(s.Rule.Grades)
	return c
}

// isBed reports whether there is a bed.
func (s suite) isBed(bed int) bool { return within(bed, 0, len(s.ground.Beds)-1) }

// isMan reports whether there is a man.
func (s suite) isMan(man int) bool { return within(man, 0, len(s.men)-1) }

// isPerson reports whether there is a person.
func (s suite) isPerson(person int) bool { return within(person, 0, len(s.persons)-1) }

// isMart reports whether there is a mart.
func (s suite) isMart(mart int) bool { return within(mart, 0, len(s.marts)-1) }

// grades returns how many grades the marts have.
func (s suite) grades() int { return len(s.marts[0].Prices) }

// isGrade reports whether the marts have a grade.
func (s suite) isGrade(grade int) bool { return within(grade, 0, s.grades()-1) }
