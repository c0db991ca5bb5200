package air

import (
	"iter"
	"slices"

	"bathyal/api"
)

// isRoster reports whether a roster of so many crews is as defined.
func isRoster(crews int, roster [][]int) bool {
	if !within(len(roster), 1, api.AirWatches) || !within(len(roster[0]), 1, api.AirPumps) {
		return false
	}
	for _, watch := range roster {
		if len(watch) != len(roster[0]) {
			return false
		}
		before := none
		for _, crew := range watch {
			if !within(crew, before+1, crews-1) {
				return false
			}
			before = crew
		}
	}
	return true
}

// spell is in how many watches a crew has worked one after the other, and in how many it has not worked since.
type spell struct {
	work int
	rest int
}

// works returns the spell after a watch in which the crew works, or false if it cannot.
func (s spell) works(c api.AirCrew) (spell, bool) {
	if s.work == c.Tire || s.work == 0 && s.rest < c.Rest {
		return spell{}, false
	}
	return spell{work: s.work + 1}, true
}

// rests returns the spell after a watch in which the crew does not work.
func (s spell) rests() spell { return spell{rest: s.rest + 1} }

// kept is some crews with the watches of a roster that they have kept so far, and which of them have worked.
type kept struct {
	crews   []api.AirCrew
	watches [api.AirWatches][]int
	passed  int
	spells  [api.AirCrews]spell
	worked  [api.AirCrews]bool
}

// fresh returns crews that have rested as long as any crew has to, with a roster without watches.
func fresh(crews []api.AirCrew) kept {
	k := kept{crews: crews}
	for crew := range k.spells {
		k.spells[crew] = spell{rest: api.AirWatches}
	}
	return k
}

// add returns the roster with one watch more, or false if it cannot be kept.
func (k kept) add(watch []int) (kept, bool) {
	was := k.spells
	for crew := range k.spells {
		k.spells[crew] = was[crew].rests()
	}
	for _, crew := range watch {
		s, ok := was[crew].works(k.crews[crew])
		if !ok {
			return kept{}, false
		}
		k.spells[crew], k.worked[crew] = s, true
	}
	k.watches[k.passed] = watch
	k.passed++
	return k, true
}

// men returns the men of all crews that have worked.
func (k kept) men() int {
	men := 0
	for crew, c := range k.crews {
		if k.worked[crew] {
			men += c.Men
		}
	}
	return men
}

// watchesOf returns all watches of some of so many crews, in lexicographic order.
func watchesOf(crews, pumps int) [][]int {
	var all [][]int
	var choose func(from int, chosen []int)
	choose = func(from int, chosen []int) {
		if len(chosen) == pumps {
			all = append(all, chosen)
			return
		}
		for crew := from; crew < crews; crew++ {
			choose(crew+1, with(chosen, crew))
		}
	}
	choose(0, nil)
	return all
}

// rosters yields all rosters of some crews that can be kept, in lexicographic order.
func rosters(crews []api.AirCrew, watches, pumps int) iter.Seq[kept] {
	all := watchesOf(len(crews), pumps)
	return func(yield func(kept) bool) {
		var fill func(k kept) bool
		fill = func(k kept) bool {
			if k.passed == watches {
				return yield(k)
			}
			for _, watch := range all {
				if more, ok := k.add(watch); ok && !fill(more) {
					return false
				}
			}
			return true
		}
		fill(fresh(crews))
	}
}

// Keeps reports whether a roster can be kept.
func Keeps(crews []api.AirCrew, roster [][]int) (bool, api.Errno) {
	if !areCrews(crews) || !isRoster(len(crews), roster) {
		return false, api.ErrArg
	}
	k, ok := fresh(crews), true
	for watch := range len(roster) {
		if k, ok = k.add(roster[watch]); !ok {
			return false, api.OK
		}
	}
	return true, api.OK
}

// Roster returns the best roster, and its men.
func Roster(crews []api.AirCrew, watches, pumps int) ([][]int, int, api.Errno) {
	if !areCrews(crews) || !within(watches, 1, api.AirWatches) || !within(pumps, 1, api.AirPumps) {
		return nil, 0, api.ErrArg
	}
	anyone := func(kept) bool { return true }
	k, some := best(rosters(crews, watches, pumps), anyone, func(a, b kept) bool { return a.men() < b.men() })
	if !some {
		return nil, 0, api.ErrNone
	}
	roster := make([][]int, watches)
	for watch := range watches {
		roster[watch] = slices.Clone(k.watches[watch])
	}
	return roster, k.men(), api.OK
}
