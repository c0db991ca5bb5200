package share

import (
	"sort"

	"bathyal/api"
)

// purse is the greatest budget, and the greatest least pool.
const purse = api.ShareFew * api.ShareCoins

// areCoins reports whether there is a number of coins for each person, which is 0 for the house.
func areCoins(s api.ShareSeason, coins []int) bool {
	if len(coins) != len(s.Persons) || coins[house] != 0 {
		return false
	}
	for _, n := range coins {
		if !within(n, 0, api.ShareCoins) {
			return false
		}
	}
	return true
}

// caps returns how much each person can be advanced at most, whatever others are: the wish, or what is surely worked off.
func caps(s api.ShareSeason, wishes []int, pool int) []int {
	all := partsOf(s.Persons)
	most := make([]int, len(wishes))
	for person, p := range s.Persons {
		surely := max(pool*p.Parts/all-p.Debt, 0)
		most[person] = min(wishes[person], surely)
	}
	return most
}

// levelled returns advances that go up to a level.
func levelled(caps []int, level int) []int {
	advances := make([]int, len(caps))
	for person, most := range caps {
		advances[person] = min(most, level)
	}
	return advances
}

// fairest returns the best Easter: all have the highest level that the budget allows, or as much as they can be advanced. What is left, which does not suffice for a coin more for all, goes to the first persons, as that list is the last one of those that are as fair.
func fairest(caps []int, budget int) []int {
	level := sort.Search(api.ShareCoins, func(level int) bool {
		return sum(levelled(caps, level+1)...) > budget
	})
	advances := levelled(caps, level)
	left := budget - sum(advances...)
	for person := range advances {
		if left > 0 && advances[person] < caps[person] {
			advances[person]++
			left--
		}
	}
	return advances
}

// Easter returns the best Easter.
func Easter(s api.ShareSeason, wishes []int, budget, pool int) ([]int, api.Errno) {
	if Check(s) != api.OK || !areCoins(s, wishes) || !within(budget, 0, purse) || !within(pool, 0, purse) {
		return nil, api.ErrArg
	}
	return fairest(caps(s, wishes, pool), budget), api.OK
}

// areAdvances reports whether there is an advance for each person, and none for the house and for those who are gone.
func areAdvances(s api.ShareSeason, advances []int) bool {
	if !areCoins(s, advances) {
		return false
	}
	for person, p := range s.Persons {
		if !stays(p) && advances[person] > 0 {
			return false
		}
	}
	return true
}

// Next returns the debts with which all persons begin the next season.
func Next(s api.ShareSeason, advances []int) ([]int, api.Errno) {
	if Check(s) != api.OK || !areAdvances(s, advances) {
		return nil, api.ErrArg
	}
	debts := make([]int, len(advances))
	for person, has := range settle(s).inTheEnd() {
		debts[person] = has.Owed + advances[person]
	}
	return debts, api.OK
}
