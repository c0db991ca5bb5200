package share_test

import (
	"math/rand"
	"slices"
	"testing"

	"bathyal/api"
	"bathyal/share"
)

// few returns persons who owe nothing, with as many parts each.
func few(many, parts int) api.ShareSeason {
	one := api.SharePerson{Parts: parts, Fate: api.ShareStays}
	return api.ShareSeason{Persons: slices.Repeat([]api.SharePerson{one}, many)}
}

// P5.6
func TestEaster(t *testing.T) {
	const most, least = 1<<63 - 1, -1 << 63
	for i, x := range []struct {
		season       api.ShareSeason
		wishes       []int
		budget, pool int
		want         []int
		e            api.Errno
	}{
		// of 120 for 6 parts, 1 surely has 40, all of which are owed, and 2 has 20
		{seasonS(), l(0, 30, 30), 40, 120, l(0, 0, 10), api.OK}, {seasonS(), l(0, 30, 30), 9, 120, l(0, 0, 9), api.OK}, {seasonS(), l(0, 30, 30), 40, 119, l(0, 0, 9), api.OK}, {seasonS(), l(0, 30, 30), 40, 122, l(0, 0, 10), api.OK}, {seasonS(), l(0, 30, 30), 40, 123, l(0, 1, 10), api.OK}, {seasonS(), l(0, 30, 30), 40, 60, l(0, 0, 0), api.OK}, {seasonS(), l(0, 30, 30), 40, 66, l(0, 0, 1), api.OK}, {seasonS(), l(0, 30, 30), 40, 0, l(0, 0, 0), api.OK},
		{seasonS(), l(0, 30, 30), 41, 300, l(0, 21, 20), api.OK}, {seasonS(), l(0, 30, 30), 40, 300, l(0, 20, 20), api.OK}, {seasonS(), l(0, 30, 30), 100, 300, l(0, 30, 30), api.OK}, {seasonS(), l(0, 30, 30), 60, 300, l(0, 30, 30), api.OK}, {seasonS(), l(0, 30, 30), 59, 300, l(0, 30, 29), api.OK}, {seasonS(), l(0, 30, 5), 41, 300, l(0, 30, 5), api.OK}, {seasonS(), l(0, 30, 5), 31, 300, l(0, 26, 5), api.OK}, {seasonS(), l(0, 5, 30), 31, 300, l(0, 5, 26), api.OK}, {seasonS(), l(0, 0, 30), 7, 300, l(0, 0, 7), api.OK}, {seasonS(), l(0, 30, 30), 0, 300, l(0, 0, 0), api.OK}, {seasonS(), l(0, 30, 30), 1, 300, l(0, 1, 0), api.OK}, {seasonS(), l(0, 0, 0), 40, 300, l(0, 0, 0), api.OK},
		{seasonS(), l(0, api.ShareCoins, api.ShareCoins), 600000, 600000, l(0, api.ShareCoins, 99990), api.OK},
		// fates and landings do not matter
		{seasonT(), l(0, 30, 30), 41, 300, l(0, 21, 20), api.OK}, {seasonU(), l(0, 30, 30), 41, 300, l(0, 21, 20), api.OK}, {idle(), l(0, 30, 30), 41, 300, l(0, 21, 20), api.OK},
		// what is left goes to the first ones who can have more
		{few(6, 4), l(0, 9, 9, 9, 9, 9), 42, 60, l(0, 9, 9, 8, 8, 8), api.OK}, {few(6, 4), l(0, 9, 3, 9, 3, 9), 31, 60, l(0, 9, 3, 8, 3, 8), api.OK}, {few(6, 4), l(0, 3, 9, 9, 3, 9), 28, 60, l(0, 3, 8, 7, 3, 7), api.OK}, {few(6, 4), l(0, 7, 7, 7, 8, 8), 36, 60, l(0, 7, 7, 7, 8, 7), api.OK},
		{few(6, 1), slices.Repeat(l(0), 6), 600000, 600000, slices.Repeat(l(0), 6), api.OK}, {few(6, 1), slices.Concat(l(0), slices.Repeat(l(api.ShareCoins), 5)), 600000, 600000, slices.Concat(l(0), slices.Repeat(l(api.ShareCoins), 5)), api.OK}, {few(6, 1), slices.Concat(l(0), slices.Repeat(l(api.ShareCoins), 5)), 499999, 600000, l(0, 100000, 100000, 100000, 100000, 99999), api.OK}, {few(6, 1), slices.Concat(l(0), slices.Repeat(l(api.ShareCoins), 5)), 499994, 600000, l(0, 99999, 99999, 99999, 99999, 99998), api.OK},
		{rich(), l(0, 1, 1, 1, 1, 1), 5, 600000, l(0, 0, 0, 0, 1, 0), api.OK},
		// wishes that are none
		{seasonS(), l(1, 0, 0), 40, 300, nil, api.ErrArg}, {seasonS(), l(-1, 0, 0), 40, 300, nil, api.ErrArg}, {seasonS(), l(0, 30), 40, 300, nil, api.ErrArg}, {seasonS(), l(0, 30, 30, 30), 40, 300, nil, api.ErrArg}, {seasonS(), nil, 40, 300, nil, api.ErrArg}, {seasonS(), l(0, -1, 0), 40, 300, nil, api.ErrArg}, {seasonS(), l(0, 0, -1), 40, 300, nil, api.ErrArg}, {seasonS(), l(0, api.ShareCoins+1, 0), 40, 300, nil, api.ErrArg}, {seasonS(), l(0, most, 0), 40, 300, nil, api.ErrArg}, {seasonS(), l(0, 0, least), 40, 300, nil, api.ErrArg},
		{seasonS(), l(0, 30, 30), -1, 300, nil, api.ErrArg}, {seasonS(), l(0, 30, 30), 600001, 300, nil, api.ErrArg}, {seasonS(), l(0, 30, 30), most, 300, nil, api.ErrArg}, {seasonS(), l(0, 30, 30), least, 300, nil, api.ErrArg}, {seasonS(), l(0, 30, 30), 40, -1, nil, api.ErrArg}, {seasonS(), l(0, 30, 30), 40, 600001, nil, api.ErrArg}, {seasonS(), l(0, 30, 30), 40, most, nil, api.ErrArg}, {seasonS(), l(0, 30, 30), 40, least, nil, api.ErrArg},
	} {
		if got, e := share.Easter(x.season, x.wishes, x.budget, x.pool); e != x.e || !equal(got, x.want) {
			t.Error(i, got, e)
		}
	}
	for i, s := range badSeasons() {
		if got, e := share.Easter(s, make([]int, len(s.Persons)), 40, 300); e != api.ErrArg || len(got) != 0 {
			t.Error(i, s, got, e)
		}
	}
}

// surely returns what a person has at least of a pool, rounded down, if all share it.
func surely(s api.ShareSeason, person, pool int) int {
	all := 0
	for _, p := range s.Persons {
		all += p.Parts
	}
	return pool * s.Persons[person].Parts / all
}

// surelyWorkedOff returns what is surely worked off by a person, by the definition.
func surelyWorkedOff(s api.ShareSeason, person, pool int) int {
	return max(0, surely(s, person, pool)-s.Persons[person].Debt)
}

// isEaster reports whether a list is an Easter, by the definition.
func isEaster(s api.ShareSeason, wishes []int, budget, pool int, advances []int) bool {
	all := 0
	for person, n := range advances {
		if person == 0 && n != 0 || n < 0 || n > wishes[person] || n > surelyWorkedOff(s, person, pool) && person > 0 {
			return false
		}
		all += n
	}
	return len(advances) == len(s.Persons) && all <= budget
}

// fairer compares Easters, by the definition.
func fairer(a, b []int) int {
	return slices.Compare(slices.Sorted(slices.Values(a[1:])), slices.Sorted(slices.Values(b[1:])))
}

// everyEaster returns all Easters in lexicographic order, by the definition.
func everyEaster(s api.ShareSeason, wishes []int, budget, pool int) [][]int {
	all := [][]int{nil}
	for _, wish := range wishes {
		var longer [][]int
		for _, list := range all {
			for n := range wish + 1 {
				longer = append(longer, slices.Concat(list, l(n)))
			}
		}
		all = longer
	}
	return slices.DeleteFunc(all, func(x []int) bool { return !isEaster(s, wishes, budget, pool, x) })
}

// P5.6: no Easter is fairer, of all that there are, and none that is as fair comes after it
func TestEasterOfAny(t *testing.T) {
	r := source(7)
	met := map[string]int{}
	for range 800 {
		s := api.ShareSeason{Persons: anyPersons(r)}
		wishes := make([]int, len(s.Persons))
		for person := range wishes[1:] {
			wishes[person+1] = r.Intn(5)
			s.Persons[person+1].Debt = r.Intn(3)
		}
		budget, pool := r.Intn(5*len(wishes)), r.Intn(50)
		all := everyEaster(s, wishes, budget, pool)
		want := all[0]
		asFair := 0
		for _, x := range all {
			switch c := fairer(x, want); {
			case c > 0:
				want, asFair = x, 1
			case c == 0:
				want = x
				asFair++
			}
		}
		if got, e := share.Easter(s, wishes, budget, pool); e != api.OK || !slices.Equal(got, want) {
			t.Fatal(s, wishes, budget, pool, got, e, want)
		}
		if asFair > 1 {
			met["several"]++
		}
		if slices.Max(want) > slices.Min(want[1:])+1 {
			met["some cannot have more"]++
		}
	}
	wantAll(t, met, "several", "some cannot have more")
}

// P5.6: no Easter that somebody proposes is fairer, also where there are many coins
func TestEasterProposed(t *testing.T) {
	r := source(8)
	met := map[string]int{}
	for range 1500 {
		s := api.ShareSeason{Persons: anyPersons(r)}
		wishes := make([]int, len(s.Persons))
		for person := range wishes[1:] {
			wishes[person+1] = anyCoins(r)
		}
		budget, pool := r.Intn(600001), r.Intn(600001)
		if r.Intn(2) == 0 {
			budget = r.Intn(1000)
		}
		got, e := share.Easter(s, wishes, budget, pool)
		if e != api.OK || !isEaster(s, wishes, budget, pool, got) {
			t.Fatal(s, wishes, budget, pool, got, e)
		}
		for range 100 {
			x := proposed(r, got)
			if !isEaster(s, wishes, budget, pool, x) {
				continue
			}
			met["proposed"]++
			if c := fairer(x, got); c > 0 || c == 0 && slices.Compare(x, got) > 0 {
				t.Fatal(s, wishes, budget, pool, got, x)
			}
		}
	}
	wantAll(t, met, "proposed")
}

// proposed returns a list with some numbers changed.
func proposed(r *rand.Rand, advances []int) []int {
	x := slices.Clone(advances)
	for range anyOf(r, 1, 3) {
		person := anyOf(r, 1, len(x)-1)
		x[person] += anyOf(r, -2, 2)
		if r.Intn(3) == 0 {
			other := anyOf(r, 1, len(x)-1)
			x[person], x[other] = x[other], x[person]
		}
	}
	return x
}

// P5.6: debts and advances are worked off by everybody whose debt is surely worked off, if the pool is the least one at least, and all stay and take part
func TestEasterWorkedOff(t *testing.T) {
	r := source(9)
	met := map[string]int{}
	for range 3000 {
		s := anySeason(r)
		for person := range s.Persons {
			s.Persons[person].Fate = api.ShareStays
		}
		for landing := range s.Landings {
			s.Landings[landing].Crew = 1<<len(s.Persons) - 1
		}
		wishes := make([]int, len(s.Persons))
		for person := range wishes[1:] {
			wishes[person+1] = anyCoins(r)
		}
		pool := poolOf(s)
		if r.Intn(2) == 0 {
			pool = r.Intn(pool + 1)
		}
		advances, e := share.Easter(s, wishes, r.Intn(1000), pool)
		if e != api.OK {
			t.Fatal(s, wishes, e)
		}
		x := copyOf(s)
		for person, n := range advances {
			x.Persons[person].Debt += n
		}
		if share.Check(x) != api.OK {
			continue
		}
		all, _, _ := share.Settle(x)
		for person, p := range x.Persons {
			least := surely(s, person, pool)
			if s.Persons[person].Debt <= least && all[person].Owed > 0 {
				t.Fatal(x, person, pool, advances, all)
			}
			if advances[person] > 0 && p.Debt == least && all[person].Paid == 0 {
				met["just worked off"]++
			}
		}
	}
	wantAll(t, met, "just worked off")
}

// P5.7
func TestNext(t *testing.T) {
	const most, least = 1<<63 - 1, -1 << 63
	for i, x := range []struct {
		season   api.ShareSeason
		advances []int
		want     []int
		e        api.Errno
	}{
		{seasonS(), l(0, 5, 7), l(0, 5, 7), api.OK}, {seasonS(), l(0, 0, 0), l(0, 0, 0), api.OK}, {seasonT(), l(0, 5, 0), l(0, 5, 10), api.OK}, {seasonU(), l(0, 0, 7), l(0, 0, 7), api.OK}, {idle(), l(0, 5, 7), l(0, 45, 17), api.OK},
		{with(func(s *api.ShareSeason) { s.Persons[1].Debt = 60 }), l(0, 5, 7), l(0, 12, 7), api.OK},
		// a debt can be greater in the end than at the beginning of any season
		{with(func(s *api.ShareSeason) { s.Landings, s.Persons[1].Debt = nil, api.ShareCoins }), l(0, api.ShareCoins, api.ShareCoins), l(0, 2*api.ShareCoins, api.ShareCoins+10), api.OK},
		// who dies owes nothing any more
		{with(func(s *api.ShareSeason) {
			s.Persons[1].Fate, s.Persons[1].Debt = api.ShareDies, api.ShareCoins
		}), l(0, 0, 7), l(0, 0, 7), api.OK},
		{rich(), l(0, 1, 2, 3, 4, 5), l(0, 89771, 89772, 60928, 4, 95460), api.OK},
		{seasonT(), l(0, 5, 1), nil, api.ErrArg}, {seasonU(), l(0, 1, 0), nil, api.ErrArg}, {seasonS(), l(1, 0, 0), nil, api.ErrArg}, {seasonS(), l(-1, 0, 0), nil, api.ErrArg}, {seasonS(), l(0, 0), nil, api.ErrArg}, {seasonS(), l(0, 0, 0, 0), nil, api.ErrArg}, {seasonS(), nil, nil, api.ErrArg}, {seasonS(), l(0, api.ShareCoins+1, 0), nil, api.ErrArg}, {seasonS(), l(0, 0, api.ShareCoins+1), nil, api.ErrArg}, {seasonS(), l(0, -1, 0), nil, api.ErrArg}, {seasonT(), l(0, 0, -1), nil, api.ErrArg}, {seasonS(), l(0, most, 0), nil, api.ErrArg}, {seasonS(), l(0, 0, least), nil, api.ErrArg},
	} {
		if got, e := share.Next(x.season, x.advances); e != x.e || !equal(got, x.want) {
			t.Error(i, got, e)
		}
	}
	for i, s := range badSeasons() {
		if got, e := share.Next(s, make([]int, len(s.Persons))); e != api.ErrArg || len(got) != 0 {
			t.Error(i, s, got, e)
		}
	}
}

// P5.7: debts are what is owed in the end, and what is advanced
func TestNextOfAny(t *testing.T) {
	r := source(10)
	for range 1500 {
		s := anySeason(r)
		ends, _, _ := share.Settle(s)
		advances, want := make([]int, len(ends)), make([]int, len(ends))
		for person, end := range ends {
			if person > 0 && s.Persons[person].Fate == api.ShareStays {
				advances[person] = anyCoins(r)
			}
			want[person] = end.Owed + advances[person]
		}
		if got, e := share.Next(s, advances); e != api.OK || !slices.Equal(got, want) {
			t.Fatal(s, advances, got, e, want)
		}
		gone := r.Intn(len(ends))
		if gone == 0 || s.Persons[gone].Fate != api.ShareStays {
			advances[gone] = anyOf(r, 1, api.ShareCoins)
			if got, e := share.Next(s, advances); e != api.ErrArg || len(got) != 0 {
				t.Fatal(s, advances, got, e)
			}
		}
	}
}
