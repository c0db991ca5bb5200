package rescue_test

import (
	"math/rand"
	"slices"
	"testing"

	"bathyal/api"
	"bathyal/rescue"
)

// P9.7
func TestTeam(t *testing.T) {
	a, b := bookA(), bookB()
	deep := book(lesson(0, 0), lesson(0, 0), dive(15, 4, 5), dive(16, 5, 6))
	for i, x := range []struct {
		men   [][]api.RescueEntry
		day   int
		tasks []int
		want  []int
		e     api.Errno
	}{
		{men(a, b), 12, l(5, 20), l(1, 0), api.OK}, {men(a, b), 12, l(20, 5), l(0, 1), api.OK}, {men(a, b), 12, l(5, 5), l(0, 1), api.OK}, {men(a, b), 12, l(20), l(0), api.OK}, {men(b, a), 12, l(20), l(1), api.OK}, {men(a, b), 10, l(5), l(1), api.OK}, {men(b, deep, a), 12, l(20, 15, 10), l(1, 2, 0), api.OK}, {men(a, b, a, b), 12, l(5, 5, 5, 5), l(0, 1, 2, 3), api.OK}, {men(a, b, a, b), 12, l(5, 5, 20, 20), l(1, 3, 0, 2), api.OK}, {men(a, b, a, b), 12, l(5, 20, 5, 20), l(1, 0, 3, 2), api.OK}, {men(a, b, a, b), 12, l(20, 20, 5, 5), l(0, 2, 1, 3), api.OK}, {men(a, b, a, b), 12, l(10, 20, 0), l(0, 2, 1), api.OK}, {men(a, b, a, b), 12, l(20, 10), l(0, 1), api.OK}, {men(nil), 0, l(0), l(0), api.OK}, {men(nil, nil), 0, l(0, 0), l(0, 1), api.OK}, {men(nil, b, nil), 1, l(1), l(1), api.OK},
		// nobody, or not enough men, or all men once
		{men(a, b), 12, l(20, 20), nil, api.ErrNone}, {men(a), 12, l(5, 5), nil, api.ErrNone}, {men(a, b), 12, l(21), nil, api.ErrNone}, {men(a, b), 12, l(5, 21), nil, api.ErrNone}, {men(b, b, b), 12, l(5, 5, 5, 5), nil, api.ErrNone}, {men(b, b, b, a), 12, l(5, 20, 5, 20), nil, api.ErrNone}, {men(a), 9, l(0), nil, api.ErrNone}, {men(a), 10, l(0), nil, api.ErrNone}, {men(a), 11, l(0), l(0), api.OK}, {men(nil), 12, l(1), nil, api.ErrNone},
		// one that is not possible, be it needed or not
		{men(a, torn()), 12, l(5), nil, api.ErrRule}, {men(torn(), a), 12, l(5), nil, api.ErrRule}, {men(torn()), 12, l(40), nil, api.ErrRule}, {men(a, b, torn()), 12, l(20, 20, 20, 20), nil, api.ErrRule},
	} {
		if y, e := rescue.Team(ruleR(), x.men, x.day, x.tasks); e != x.e || !slices.Equal(y, x.want) {
			t.Error(i, y, e)
		}
	}
}

// P9.7
func TestTeamErrors(t *testing.T) {
	check := func(r api.RescueRule, m [][]api.RescueEntry, day int, tasks []int) {
		t.Helper()
		if y, e := rescue.Team(r, m, day, tasks); e != api.ErrArg || len(y) != 0 {
			t.Error(r, m, day, tasks, y, e)
		}
	}
	both := men(bookA(), bookB())
	for _, m := range [][][]api.RescueEntry{both, men(bookA(), torn()), men(torn())} {
		for _, r := range badRules() {
			check(r, m, 12, l(5))
		}
		for _, n := range badNumbers(0, api.RescueDays) {
			check(ruleR(), m, n, l(5))
		}
		for _, n := range badNumbers(0, api.RescueDepth) {
			check(ruleR(), m, 12, l(n))
			check(ruleR(), m, 12, l(5, n))
			check(ruleR(), m, 12, l(n, 40, 40, 40))
		}
		check(ruleR(), m, 12, nil)
		check(ruleR(), m, 12, l())
		check(ruleR(), m, 12, l(5, 5, 5, 5, 5))
		check(ruleR(), m, 12, slices.Repeat(l(5), 100))
	}
	for _, b := range badBooks() {
		check(ruleR(), men(b), 12, l(5))
		check(ruleR(), men(bookA(), b), 12, l(5))
		check(ruleR(), men(torn(), b), 12, l(5))
		check(ruleR(), men(b, torn()), 12, l(5))
	}
	check(ruleR(), nil, 12, l(5))
	check(ruleR(), men(), 12, l(5))
	check(ruleR(), slices.Repeat(both, 3), 12, l(5))
	check(ruleR(), slices.Repeat(men(torn()), 5), 12, l(5))
}

// anyMen returns books that are possible, of which the days are near to each other.
func anyMen(r *rand.Rand) [][]api.RescueEntry {
	var m [][]api.RescueEntry
	for range max(anyOf(r, 1, api.RescueDivers), anyOf(r, 1, api.RescueDivers)) {
		m = append(m, append(book(lesson(0, 0), lesson(0, 0)), anyPossible(r)...))
		if last := &m[len(m)-1]; len(*last) > api.RescueEntries {
			*last = (*last)[:api.RescueEntries]
		}
	}
	return m
}

// P9.7: by the definition, of all lists of men the first one that is a team
func TestTeamOfAny(t *testing.T) {
	r := source(9)
	met := map[any]int{}
	for range 3000 {
		q, m := anyRule(r), anyMen(r)
		day := anyDay(r, m[0])
		var tasks []int
		for range anyOf(r, 1, len(m)+r.Intn(2)) {
			tasks = append(tasks, anyOf(r, 0, 30))
		}
		if len(tasks) > api.RescueDivers {
			continue
		}
		var found []int
		lists(slices.Repeat([]api.Span{sp(0, len(m)-1)}, len(tasks)), func(team []int) {
			for i, n := range team {
				if found != nil || slices.Contains(team[:i], n) {
					return
				}
				if w, _ := rescue.Known(q, m[n], day, tasks[i]); w != api.RescueSurely {
					return
				}
			}
			found = slices.Clone(team)
		})
		y, e := rescue.Team(q, m, day, tasks)
		if found == nil && (e != api.ErrNone || len(y) != 0) || found != nil && (e != api.OK || !slices.Equal(y, found)) {
			t.Fatal(q, m, day, tasks, y, e, found)
		}
		met[e]++
		met[[2]any{len(y), slices.IsSorted(y)}]++
	}
	wantAll(t, met, any(api.OK), any(api.ErrNone))
	for many := 2; many <= api.RescueDivers; many++ {
		wantAll(t, met, any([2]any{many, true}), any([2]any{many, false}))
	}
}
