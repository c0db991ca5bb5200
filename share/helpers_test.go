package share_test

import (
	"math/big"
	"math/rand"
	"reflect"
	"slices"
	"testing"

	"bathyal/api"
)

func sp(low, high int) api.Span { return api.Span{Low: low, High: high} }

func just(n int) api.Span { return sp(n, n) }

func l(n ...int) []int { return n }

// seasonS returns the season s of the chapter.
func seasonS() api.ShareSeason {
	return api.ShareSeason{
		Persons:  []api.SharePerson{{Parts: 3, Fate: api.ShareStays}, {Parts: 2, Debt: 40, Fate: api.ShareStays}, {Parts: 1, Debt: 10, Fate: api.ShareStays}},
		Landings: []api.ShareLanding{{Gross: 130, Costs: 30, Crew: 7}, {Gross: 50, Crew: 3}, {Gross: 10, Costs: 20, Crew: 5}},
	}
}

// with returns the season s with something changed.
func with(change func(*api.ShareSeason)) api.ShareSeason {
	s := seasonS()
	change(&s)
	return s
}

// seasonT and seasonU return the seasons t and u of the chapter.
func seasonT() api.ShareSeason {
	return with(func(s *api.ShareSeason) { s.Persons[2].Fate = api.ShareDeserts })
}

func seasonU() api.ShareSeason {
	return with(func(s *api.ShareSeason) { s.Persons[1].Fate = api.ShareDies })
}

// idle returns the season s without landings.
func idle() api.ShareSeason { return with(func(s *api.ShareSeason) { s.Landings = nil }) }

// rich returns a season with as much of everything as there can be.
func rich() api.ShareSeason {
	var s api.ShareSeason
	for _, parts := range l(13, 1, 1, 2, 6, 1) {
		s.Persons = append(s.Persons, api.SharePerson{Parts: parts, Debt: api.ShareCoins, Fate: api.ShareStays})
	}
	s.Persons[0].Debt = 0
	for _, crew := range l(15, 17, 25, 57, 31, 1) {
		s.Landings = append(s.Landings, api.ShareLanding{Gross: api.ShareCoins, Crew: crew})
	}
	return s
}

// rows returns the rows of a book.
func rows(rows ...[]int) [][]int { return rows }

// bookS returns the book of the season s.
func bookS() api.ShareBook {
	return api.ShareBook{Rows: rows(l(3000, 2000, 1000), l(1800, 1200, 0), l(0, 0, 0)), Across: l(6000, 3000, 0), Down: l(4800, 3200, 1000), All: 9000}
}

// booked returns the book of the season s with something changed.
func booked(change func(*api.ShareBook)) api.ShareBook {
	b := bookS()
	change(&b)
	return b
}

// badNumbers returns numbers that are not from low to high.
func badNumbers(low, high int) []int { return l(low-1, high+1, -1<<63, 1<<63-1) }

// badSeasons returns seasons that are not as defined.
func badSeasons() []api.ShareSeason {
	bad := []api.ShareSeason{{}, {Landings: seasonS().Landings}}
	add := func(change func(*api.ShareSeason)) { bad = append(bad, with(change)) }
	add(func(s *api.ShareSeason) { s.Persons = s.Persons[:1] })
	add(func(s *api.ShareSeason) { s.Persons, s.Landings = s.Persons[:1], nil })
	add(func(s *api.ShareSeason) { s.Persons = slices.Repeat(s.Persons[:1], api.ShareFew+1) })
	add(func(s *api.ShareSeason) { s.Persons = s.Persons[:2] })
	add(func(s *api.ShareSeason) { s.Landings = slices.Repeat(s.Landings, 3)[:api.ShareLandings+1] })
	for person := range 3 {
		for _, n := range badNumbers(1, api.ShareParts) {
			add(func(s *api.ShareSeason) { s.Persons[person].Parts = n })
		}
		add(func(s *api.ShareSeason) { s.Persons[person].Parts += api.ShareParts - 5 })
		for _, n := range badNumbers(0, api.ShareCoins) {
			add(func(s *api.ShareSeason) { s.Persons[person].Debt = n })
		}
		for _, n := range badNumbers(1, 3) {
			add(func(s *api.ShareSeason) { s.Persons[person].Fate = api.ShareFate(n) })
		}
	}
	add(func(s *api.ShareSeason) {
		s.Persons[0].Parts, s.Persons[1].Parts, s.Persons[2].Parts = 1<<62, 1<<62, 1<<62
	})
	add(func(s *api.ShareSeason) { s.Persons[0].Debt = 1 })
	add(func(s *api.ShareSeason) { s.Persons[0].Fate = api.ShareDeserts })
	add(func(s *api.ShareSeason) { s.Persons[0].Fate = api.ShareDies })
	for landing := range 3 {
		for _, n := range badNumbers(0, api.ShareCoins) {
			add(func(s *api.ShareSeason) { s.Landings[landing].Gross = n })
			add(func(s *api.ShareSeason) { s.Landings[landing].Costs = n })
		}
		for _, n := range l(0, 2, 4, 6, 8, 9, 15, 64, 1<<32+1, -1, -7, -1<<63, 1<<63-1, -1<<63+1) {
			add(func(s *api.ShareSeason) { s.Landings[landing].Crew = n })
		}
	}
	return bad
}

// badBooks returns books that are not as defined.
func badBooks() []api.ShareBook {
	bad := []api.ShareBook{{Rows: rows(nil)}, {Across: l(0)}, {Rows: rows(l(0)), Across: l(0)}}
	add := func(change func(*api.ShareBook)) { bad = append(bad, booked(change)) }
	add(func(b *api.ShareBook) { b.Across = b.Across[1:] })
	add(func(b *api.ShareBook) { b.Across = append(b.Across, 0) })
	add(func(b *api.ShareBook) { b.Across = nil })
	add(func(b *api.ShareBook) { b.Down = b.Down[1:] })
	add(func(b *api.ShareBook) { b.Down = append(b.Down, 0) })
	add(func(b *api.ShareBook) { b.Down = nil })
	add(func(b *api.ShareBook) { b.Rows = b.Rows[1:] })
	add(func(b *api.ShareBook) { b.Rows = append(b.Rows, l(0, 0, 0)) })
	add(func(b *api.ShareBook) { b.Rows = nil })
	add(func(b *api.ShareBook) { *b = api.ShareBook{Down: make([]int, api.ShareRows+1)} })
	add(func(b *api.ShareBook) {
		*b = api.ShareBook{Rows: make([][]int, api.ShareRows+1), Across: make([]int, api.ShareRows+1)}
	})
	for row := range 3 {
		for column := range 3 {
			for _, n := range badNumbers(0, api.ShareMost) {
				add(func(b *api.ShareBook) { b.Rows[row][column] = n })
			}
		}
		add(func(b *api.ShareBook) { b.Rows[row] = b.Rows[row][1:] })
		add(func(b *api.ShareBook) { b.Rows[row] = append(b.Rows[row], 0) })
		add(func(b *api.ShareBook) { b.Rows[row] = nil })
		for _, n := range badNumbers(0, api.ShareMost) {
			add(func(b *api.ShareBook) { b.Across[row] = n })
			add(func(b *api.ShareBook) { b.Down[row] = n })
		}
	}
	for _, n := range badNumbers(0, api.ShareMost) {
		add(func(b *api.ShareBook) { b.All = n })
	}
	return bad
}

// source returns numbers that are the same in each run.
func source(seed int64) *rand.Rand { return rand.New(rand.NewSource(seed)) }

// anyOf returns a number from low to high.
func anyOf(r *rand.Rand, low, high int) int { return low + r.Intn(high-low+1) }

// anyCoins returns a number of coins, be it small or large.
func anyCoins(r *rand.Rand) int {
	switch r.Intn(4) {
	case 0:
		return r.Intn(10)
	case 1:
		return anyOf(r, 0, api.ShareCoins)
	}
	return r.Intn(200)
}

// anyPersons returns persons, the house first.
func anyPersons(r *rand.Rand) []api.SharePerson {
	many := anyOf(r, 2, api.ShareFew)
	persons := []api.SharePerson{{Parts: 1, Fate: api.ShareStays}}
	for len(persons) < many {
		fate := max(api.ShareStays, api.ShareFate(anyOf(r, -2, 3)))
		persons = append(persons, api.SharePerson{Parts: 1, Debt: anyCoins(r), Fate: fate})
	}
	for range r.Intn(api.ShareParts - many + 1) {
		persons[r.Intn(many)].Parts++
	}
	return persons
}

// anyCrew returns a set of some of so many persons, the house among them.
func anyCrew(r *rand.Rand, persons int) int { return 1 | r.Intn(1<<persons) }

// anySeason returns a season.
func anySeason(r *rand.Rand) api.ShareSeason {
	s := api.ShareSeason{Persons: anyPersons(r)}
	for range r.Intn(api.ShareLandings + 1) {
		s.Landings = append(s.Landings, api.ShareLanding{Gross: anyCoins(r), Costs: anyCoins(r) / anyOf(r, 1, 4), Crew: anyCrew(r, len(s.Persons))})
	}
	return s
}

// anySharer returns a person of a season who does not desert, from low on, or false if the one that was met deserts, or there is none.
func anySharer(r *rand.Rand, s api.ShareSeason, low int) (int, bool) {
	person := anyOf(r, low, len(s.Persons)-1)
	return person, s.Persons[person].Fate != api.ShareDeserts
}

// copyOf returns a season that shares no memory with another one.
func copyOf(s api.ShareSeason) api.ShareSeason {
	return api.ShareSeason{Persons: slices.Clone(s.Persons), Landings: slices.Clone(s.Landings)}
}

// takesPart reports whether a person is among those who share a landing, by the definition.
func takesPart(s api.ShareSeason, landing, person int) bool {
	return s.Landings[landing].Crew/(1<<person)%2 == 1 && s.Persons[person].Fate != api.ShareDeserts
}

// sharedParts returns the parts of those who share a landing, by the definition.
func sharedParts(s api.ShareSeason, landing int) int {
	parts := 0
	for person, p := range s.Persons {
		if takesPart(s, landing, person) {
			parts += p.Parts
		}
	}
	return parts
}

// netOf returns the net of a landing and its deficit, by the definition.
func netOf(g api.ShareLanding) (net, deficit int) {
	if g.Gross < g.Costs {
		return 0, g.Costs - g.Gross
	}
	return g.Gross - g.Costs, 0
}

// claimOn returns the claim of a person on a landing, by the definition.
func claimOn(s api.ShareSeason, landing, person int) *big.Rat {
	if !takesPart(s, landing, person) {
		return new(big.Rat)
	}
	net, _ := netOf(s.Landings[landing])
	return big.NewRat(int64(net*s.Persons[person].Parts), int64(sharedParts(s, landing)))
}

// claimOf returns the claim of a person, by the definition.
func claimOf(s api.ShareSeason, person int) *big.Rat {
	all := new(big.Rat)
	for landing := range s.Landings {
		all.Add(all, claimOn(s, landing, person))
	}
	return all
}

// isCommon reports whether a number is a multiple of the parts of all landings.
func isCommon(s api.ShareSeason, n int) bool {
	for landing := range s.Landings {
		if n%sharedParts(s, landing) != 0 {
			return false
		}
	}
	return true
}

// isLeast reports whether a number is the common denominator, by the definition: no part of it is a multiple of the parts of all landings.
func isLeast(s api.ShareSeason, n int) bool {
	for _, prime := range l(2, 3, 5, 7, 11, 13, 17, 19, 23) {
		if n%prime == 0 && isCommon(s, n/prime) {
			return false
		}
	}
	return n > 0 && isCommon(s, n)
}

// shareOf returns the share of a person, by the definition.
func shareOf(s api.ShareSeason, person int) int {
	claim := claimOf(s, person)
	return int(new(big.Int).Quo(claim.Num(), claim.Denom()).Int64())
}

// poolOf returns the pool, by the definition.
func poolOf(s api.ShareSeason) int {
	pool := 0
	for _, g := range s.Landings {
		net, _ := netOf(g)
		pool += net
	}
	return pool
}

// times returns a claim times a number, which must be a whole one.
func times(t *testing.T, claim *big.Rat, n int) int {
	t.Helper()
	product := new(big.Rat).Mul(claim, big.NewRat(int64(n), 1))
	if !product.IsInt() {
		t.Fatal(claim, n)
	}
	return int(product.Num().Int64())
}

// subsets returns all sets of some of so many numbers, each as an increasing list, in lexicographic order.
func subsets(many int) [][]int {
	var all [][]int
	for set := range 1 << many {
		var list []int
		for n := range many {
			if set/(1<<n)%2 == 1 {
				list = append(list, n)
			}
		}
		all = append(all, list)
	}
	slices.SortFunc(all, slices.Compare)
	return all
}

// equal compares values of any type; nil and empty lists are the same.
func equal(a, b any) bool {
	return same(reflect.ValueOf(a), reflect.ValueOf(b))
}

func same(x, y reflect.Value) bool {
	if x.Type() != y.Type() {
		return false
	}
	switch x.Kind() {
	case reflect.Slice:
		if x.Len() != y.Len() {
			return false
		}
		for i := range x.Len() {
			if !same(reflect.ValueOf(x.Index(i).Interface()), reflect.ValueOf(y.Index(i).Interface())) {
				return false
			}
		}
		return true
	case reflect.Struct:
		for i := range x.NumField() {
			if !same(x.Field(i), y.Field(i)) {
				return false
			}
		}
		return true
	}
	return reflect.DeepEqual(x.Interface(), y.Interface())
}

// wantAll fails if some kind of case was never met, so that a test does not pass for nothing.
func wantAll[K comparable](t *testing.T, met map[K]int, kinds ...K) {
	t.Helper()
	for _, kind := range kinds {
		if met[kind] < 5 {
			t.Errorf("only %d cases: %v", met[kind], kind)
		}
	}
}
