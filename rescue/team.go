package rescue

import (
	"iter"
	"slices"

	"bathyal/api"
)

// menOf returns the men of some books, or the error of the first one that is not possible.
func menOf(r api.RescueRule, books [][]api.RescueEntry) ([]man, api.Errno) {
	var men []man
	for _, book := range books {
		m, e := manOf(r, book)
		if e != api.OK {
			return nil, e
		}
		men = append(men, m)
	}
	return men, api.OK
}

// teams yields all teams for a day, in lexicographic order.
func teams(men []man, day int, tasks []int) iter.Seq[[]int] {
	isWhole := func(team []int) bool { return len(team) == len(tasks) }
	return lists(isWhole, func(before []int) []int {
		depth := tasks[len(before)]
		return numbers(api.Span{Low: 0, High: len(men) - 1}, func(n int) bool {
			return !slices.Contains(before, n) && men[n].surely(day, depth)
		})
	})
}

// comesBefore reports whether a team comes before another one.
func comesBefore(a, b []int) bool { return slices.Compare(a, b) < 0 }

// Team returns the best team.
func Team(r api.RescueRule, men [][]api.RescueEntry, day int, tasks []int) ([]int, api.Errno) {
	if Rule(r) != api.OK || !defined(men, api.RescueDivers, isBook) || !isDay(day) || !defined(tasks, api.RescueDivers, isDepth) {
		return nil, api.ErrArg
	}
	all, e := menOf(r, men)
	if e != api.OK {
		return nil, e
	}
	team, some := best(teams(all, day, tasks), comesBefore)
	if !some {
		return nil, api.ErrNone
	}
	return team, api.OK
}
