package rescue_test

import (
	"math/rand"
	"reflect"
	"slices"
	"testing"

	"bathyal/api"
)

const most, least = 1<<63 - 1, -1 << 63

func sp(low, high int) api.Span { return api.Span{Low: low, High: high} }

func l(n ...int) []int { return n }

// ll returns a list of lists.
func ll(n ...[]int) [][]int { return n }

func leg(from, to int, minutes ...int) api.RescueLeg {
	return api.RescueLeg{From: from, To: to, Minutes: minutes}
}

func legs(l ...api.RescueLeg) []api.RescueLeg { return l }

// seaS returns the sea s of the chapter.
func seaS() api.RescueSea {
	return api.RescueSea{Places: 4, Currents: 2, Chamber: 0, Within: 20, Legs: legs(leg(0, 1, 4, 6), leg(1, 0, 6, 4), leg(1, 2, 3, 3), leg(2, 1, 3, 3), leg(0, 3, 5, 9), leg(3, 0, 5, 5), leg(3, 2, 4, 0), leg(2, 3, 4, 4))}
}

// withSea returns the sea s with something changed.
func withSea(change func(*api.RescueSea)) api.RescueSea {
	s := seaS()
	change(&s)
	return s
}

// calm returns a sea of so many places and one current, with the chamber 0.
func calm(places int, l ...api.RescueLeg) api.RescueSea {
	return api.RescueSea{Places: places, Currents: 1, Legs: l, Within: api.RescueLimit}
}

// widest returns a sea that has as much of everything as there can be.
func widest() api.RescueSea {
	s := api.RescueSea{Places: api.RescuePlaces, Currents: api.RescueCurrents, Chamber: 5, Within: api.RescueLimit}
	for i := range 5 {
		s.Legs = append(s.Legs, leg(i, i+1, 60, 1, 0), leg(i+1, i, 60, 0, 60))
	}
	s.Legs = append(s.Legs, leg(0, 5, 0, 60, 60), leg(5, 0, 0, 0, 0), leg(0, 2, 0, 2, 60), leg(0, 2, 0, 3, 59))
	return s
}

func boat(men, ready int) api.RescueBoat {
	return api.RescueBoat{Men: men, Ready: ready, Standby: true}
}

func boats(b ...api.RescueBoat) []api.RescueBoat { return b }

func diver(place, limit int) api.RescueDiver { return api.RescueDiver{Place: place, Limit: limit} }

func divers(d ...api.RescueDiver) []api.RescueDiver { return d }

func fleet(s api.RescueSea, b []api.RescueBoat, d []api.RescueDiver) api.RescueFleet {
	return api.RescueFleet{Sea: s, Boats: b, Divers: d}
}

// fleetF returns the fleet f of the chapter.
func fleetF() api.RescueFleet {
	return fleet(seaS(), boats(boat(3, 1), boat(2, 2), boat(4, 0)), divers(diver(2, 10), diver(1, 8)))
}

// withFleet returns the fleet f with something changed.
func withFleet(change func(*api.RescueFleet)) api.RescueFleet {
	f := fleetF()
	change(&f)
	return f
}

func danger(diver, fails, current int) api.RescueDanger {
	return api.RescueDanger{Diver: diver, Fails: fails, Current: current}
}

func rule(step, rest, deep, window, run int) api.RescueRule {
	return api.RescueRule{Step: step, Rest: rest, Deep: deep, Window: window, Run: run}
}

// ruleR returns the rule r of the chapter.
func ruleR() api.RescueRule { return rule(10, 5, 15, 3, 2) }

func entry(kind api.RescueKind, depth, low, high int) api.RescueEntry {
	return api.RescueEntry{Kind: kind, Depth: depth, Day: sp(low, high)}
}

func lesson(low, high int) api.RescueEntry { return entry(api.RescueLesson, 0, low, high) }

func dive(depth, low, high int) api.RescueEntry { return entry(api.RescueDive, depth, low, high) }

func pain(low, high int) api.RescueEntry { return entry(api.RescuePain, 0, low, high) }

func test(low, high int) api.RescueEntry { return entry(api.RescueTest, 0, low, high) }

func book(e ...api.RescueEntry) []api.RescueEntry { return e }

// The books of the chapter.
func bookA() []api.RescueEntry {
	return book(lesson(0, 0), lesson(1, 2), dive(20, 3, 4), pain(5, 6), test(9, 9))
}

func bookB() []api.RescueEntry { return book(lesson(0, 0)) }

// torn returns a book that is not possible.
func torn() []api.RescueEntry { return book(pain(5, 6), test(4, 4)) }

// open returns a book with as many truths as there can be: 4 to the 6th.
func open() []api.RescueEntry {
	return book(lesson(0, 3), dive(20, 4, 7), pain(8, 11), test(12, 15), lesson(16, 19), dive(20, 20, 23))
}

// men returns a list of books.
func men(books ...[]api.RescueEntry) [][]api.RescueEntry { return books }

// badNumbers returns numbers that are not from low to high.
func badNumbers(low, high int) []int { return l(low-1, high+1, least, most) }

// badSeas returns seas that are not as defined.
func badSeas() []api.RescueSea {
	bad := []api.RescueSea{{}, {Places: 1}, {Currents: 1}, calm(1, leg(0, 0, 1)), calm(2, leg(1, 1, 1)), calm(2, leg(0, 2, 1)), calm(2, leg(2, 0, 1))}
	add := func(change func(*api.RescueSea)) { bad = append(bad, withSea(change)) }
	for _, n := range append(badNumbers(1, api.RescuePlaces), 0, 1, 2, 3) {
		add(func(s *api.RescueSea) { s.Places = n })
	}
	for _, n := range append(badNumbers(1, api.RescueCurrents), 0, 1, 3) {
		add(func(s *api.RescueSea) { s.Currents = n })
	}
	for _, n := range badNumbers(0, 3) {
		add(func(s *api.RescueSea) { s.Chamber = n })
		add(func(s *api.RescueSea) { s.Legs[0].From = n })
		add(func(s *api.RescueSea) { s.Legs[7].To = n })
	}
	for _, n := range badNumbers(0, api.RescueLimit) {
		add(func(s *api.RescueSea) { s.Within = n })
	}
	for _, n := range badNumbers(0, api.RescueMinutes) {
		add(func(s *api.RescueSea) { s.Legs[0].Minutes[0] = n })
		add(func(s *api.RescueSea) { s.Legs[7].Minutes[1] = n })
	}
	for i := range 8 {
		add(func(s *api.RescueSea) { s.Legs[i].From = s.Legs[i].To })
		add(func(s *api.RescueSea) { s.Legs[i].Minutes = nil })
		add(func(s *api.RescueSea) { s.Legs[i].Minutes = l(1) })
		add(func(s *api.RescueSea) { s.Legs[i].Minutes = l(1, 1, 1) })
	}
	add(func(s *api.RescueSea) { s.Legs = slices.Repeat(s.Legs[:1], api.RescueLegs+1) })
	add(func(s *api.RescueSea) { s.Legs = slices.Repeat(s.Legs, 100) })
	return bad
}

// badFleets returns fleets that are not as defined.
func badFleets() []api.RescueFleet {
	bad := []api.RescueFleet{{}}
	add := func(change func(*api.RescueFleet)) { bad = append(bad, withFleet(change)) }
	for _, s := range badSeas() {
		add(func(f *api.RescueFleet) { f.Sea = s })
	}
	add(func(f *api.RescueFleet) { f.Boats = nil })
	add(func(f *api.RescueFleet) { f.Boats = boats() })
	add(func(f *api.RescueFleet) { f.Boats = append(f.Boats, boat(1, 1)) })
	add(func(f *api.RescueFleet) { f.Boats = slices.Repeat(f.Boats, 100) })
	add(func(f *api.RescueFleet) { f.Divers = nil })
	add(func(f *api.RescueFleet) { f.Divers = divers() })
	add(func(f *api.RescueFleet) { f.Divers = slices.Repeat(f.Divers[:1], api.RescueDivers+1) })
	add(func(f *api.RescueFleet) { f.Divers = slices.Repeat(f.Divers, 100) })
	for i := range 3 {
		for _, n := range badNumbers(1, api.RescueMen) {
			add(func(f *api.RescueFleet) { f.Boats[i].Men = n })
		}
		for _, n := range badNumbers(0, api.RescueMinutes) {
			add(func(f *api.RescueFleet) { f.Boats[i].Ready = n })
		}
	}
	for i := range 2 {
		for _, n := range badNumbers(0, 3) {
			add(func(f *api.RescueFleet) { f.Divers[i].Place = n })
		}
		for _, n := range badNumbers(0, api.RescueLimit) {
			add(func(f *api.RescueFleet) { f.Divers[i].Limit = n })
		}
	}
	return bad
}

// badPosts returns lists that are no posts of the fleet f.
func badPosts() [][]int {
	bad := ll(nil, l(), l(0), l(0, 1), l(0, 1, -1, -1), l(0, 1, 2, 3), slices.Repeat(l(0), 100))
	for _, n := range badNumbers(-1, 3) {
		bad = append(bad, l(n, 0, 0), l(0, n, 0), l(0, 1, n))
	}
	return bad
}

// badRules returns rules that are not as defined.
func badRules() []api.RescueRule {
	bad := []api.RescueRule{{}}
	add := func(change func(*api.RescueRule)) {
		r := ruleR()
		change(&r)
		bad = append(bad, r)
	}
	for _, n := range badNumbers(1, api.RescueDepth) {
		add(func(r *api.RescueRule) { r.Step = n })
	}
	for _, n := range badNumbers(0, api.RescueDays) {
		add(func(r *api.RescueRule) { r.Rest = n })
	}
	for _, n := range badNumbers(0, api.RescueDepth) {
		add(func(r *api.RescueRule) { r.Deep = n })
	}
	for _, n := range badNumbers(1, api.RescueDays) {
		add(func(r *api.RescueRule) { r.Window = n })
	}
	for _, n := range badNumbers(1, api.RescueEntries) {
		add(func(r *api.RescueRule) { r.Run = n })
	}
	return bad
}

// badBooks returns books that are not as defined.
func badBooks() [][]api.RescueEntry {
	bad := men(slices.Repeat(bookB(), api.RescueEntries+1), slices.Repeat(bookB(), 100))
	add := func(e api.RescueEntry) { bad = append(bad, book(e), book(lesson(0, 0), e), book(e, test(60, 60))) }
	for _, kind := range []api.RescueKind{least, -1, 0, 5, 6, most} {
		add(entry(kind, 0, 5, 6))
	}
	for _, n := range badNumbers(0, api.RescueDepth) {
		add(dive(n, 5, 6))
	}
	for _, kind := range []api.RescueKind{api.RescueLesson, api.RescuePain, api.RescueTest} {
		for _, n := range l(least, -1, 1, 10, 40, most) {
			add(entry(kind, n, 5, 6))
		}
	}
	for kind := api.RescueLesson; kind <= api.RescueTest; kind++ {
		for _, s := range []api.Span{sp(5, 4), sp(5, 9), sp(0, 4), sp(56, 60), sp(-1, 0), sp(-1, -1), sp(60, 61), sp(61, 61), sp(58, 61), sp(least, most), sp(most, least), sp(least, least), sp(most, most), sp(0, most), sp(least, 60), sp(least, 0)} {
			add(api.RescueEntry{Kind: kind, Day: s})
		}
	}
	return bad
}

// source returns numbers that are the same in each run.
func source(seed int64) *rand.Rand { return rand.New(rand.NewSource(seed)) }

// anyOf returns a number from low to high.
func anyOf(r *rand.Rand, low, high int) int { return low + r.Intn(high-low+1) }

// anySea returns a sea, of which each leg has at most so many minutes.
func anySea(r *rand.Rand, long int) api.RescueSea {
	s := api.RescueSea{Places: anyOf(r, 1, api.RescuePlaces), Currents: anyOf(r, 1, api.RescueCurrents)}
	s.Chamber, s.Within = r.Intn(s.Places), anyOf(r, 2*long, 6*long)
	many := anyOf(r, 0, api.RescueLegs)
	if r.Intn(2) == 0 {
		many = api.RescueLegs
	}
	for range many {
		from, to := r.Intn(s.Places), r.Intn(s.Places)
		if from == to {
			continue
		}
		one := leg(from, to)
		for range s.Currents {
			one.Minutes = append(one.Minutes, min(anyOf(r, 0, long), api.RescueMinutes))
		}
		s.Legs = append(s.Legs, one)
	}
	return s
}

// anyFleet returns a fleet, with as many boats as there can be mostly.
func anyFleet(r *rand.Rand) api.RescueFleet {
	long := 6
	if r.Intn(4) == 0 {
		long = 30
	}
	f := api.RescueFleet{Sea: anySea(r, long)}
	for range max(anyOf(r, 1, api.RescueBoats), anyOf(r, 1, api.RescueBoats)) {
		b := boat(anyOf(r, 1, 5), anyOf(r, 0, long))
		b.Standby = r.Intn(8) > 0
		f.Boats = append(f.Boats, b)
	}
	for range min(anyOf(r, 1, api.RescueDivers), anyOf(r, 1, api.RescueDivers)) {
		f.Divers = append(f.Divers, diver(r.Intn(f.Sea.Places), anyOf(r, long, 5*long)))
	}
	return f
}

// anyRing returns a fleet of which each boat is next to two places, and three boats are hardly enough.
func anyRing(r *rand.Rand) api.RescueFleet {
	f := fleet(calm(3), nil, nil)
	for place := range 3 {
		f.Sea.Legs = append(f.Sea.Legs, leg(place, (place+1)%3, anyOf(r, 1, 2)))
		f.Boats = append(f.Boats, boat(anyOf(r, 1, 5), r.Intn(5)/4))
		f.Divers = append(f.Divers, diver(place, anyOf(r, 2, 3)))
	}
	return f
}

// anyPost returns a post of a fleet.
func anyPost(r *rand.Rand, f api.RescueFleet) []int {
	var post []int
	for range f.Boats {
		post = append(post, max(anyOf(r, -1, f.Sea.Places-1), anyOf(r, -1, f.Sea.Places-1)))
	}
	return post
}

// copied returns a fleet that shares no memory with another one.
func copied(f api.RescueFleet) api.RescueFleet {
	f.Boats, f.Divers, f.Sea.Legs = slices.Clone(f.Boats), slices.Clone(f.Divers), slices.Clone(f.Sea.Legs)
	return f
}

// anyRule returns a rule, mostly one by which men can dive soon.
func anyRule(r *rand.Rand) api.RescueRule {
	if r.Intn(4) == 0 {
		return rule(anyOf(r, 1, api.RescueDepth), anyOf(r, 0, api.RescueDays), anyOf(r, 0, api.RescueDepth), anyOf(r, 1, api.RescueDays), anyOf(r, 1, api.RescueEntries))
	}
	return rule(anyOf(r, 5, 20), anyOf(r, 0, 6), anyOf(r, 5, 20), anyOf(r, 1, 6), anyOf(r, 1, 2))
}

// anyEntry returns an entry of about a day.
func anyEntry(r *rand.Rand, day int) api.RescueEntry {
	kinds := []api.RescueKind{api.RescueLesson, api.RescueLesson, api.RescueDive, api.RescueDive, api.RescuePain, api.RescueTest}
	e := entry(kinds[r.Intn(len(kinds))], 0, min(day, api.RescueDays), min(day+r.Intn(api.RescueWide+1), api.RescueDays))
	if e.Kind == api.RescueDive {
		e.Depth = anyOf(r, 0, 30)
	}
	return e
}

// anyBook returns a book, mostly one that is possible.
func anyBook(r *rand.Rand) []api.RescueEntry {
	var all []api.RescueEntry
	day := anyOf(r, 0, 4)
	if r.Intn(6) == 0 {
		day = anyOf(r, 40, 55)
	}
	for range max(r.Intn(api.RescueEntries+1), r.Intn(api.RescueEntries+1)) {
		all = append(all, anyEntry(r, day))
		day = max(0, day+r.Intn(6)-1)
	}
	return all
}

// anyPossible returns a book that is possible.
func anyPossible(r *rand.Rand) []api.RescueEntry {
	for {
		if b := anyBook(r); len(truths(b)) > 0 {
			return b
		}
	}
}

// anyDay returns a day, mostly one that is near to those of a book.
func anyDay(r *rand.Rand, b []api.RescueEntry) int {
	if len(b) == 0 || r.Intn(6) == 0 {
		return anyOf(r, 0, api.RescueDays)
	}
	return min(b[r.Intn(len(b))].Day.High+r.Intn(8), api.RescueDays)
}

// lists calls a function with all lists of numbers, one of each span, in lexicographic order.
func lists(of []api.Span, do func(list []int)) {
	var list []int
	for _, s := range of {
		list = append(list, s.Low)
	}
	for {
		do(list)
		at := len(list) - 1
		for at >= 0 && list[at] == of[at].High {
			list[at] = of[at].Low
			at--
		}
		if at < 0 {
			return
		}
		list[at]++
	}
}

// equal compares values of any type; nil and empty lists are the same.
func equal(a, b any) bool {
	return same(reflect.ValueOf(a), reflect.ValueOf(b))
}

func same(x, y reflect.Value) bool {
	if x.Type() != y.Type() {
		return false
	}
	switch x.Kind() {
	case reflect.Slice:
		if x.Len() != y.Len() {
			return false
		}
		for i := range x.Len() {
			if !same(reflect.ValueOf(x.Index(i).Interface()), reflect.ValueOf(y.Index(i).Interface())) {
				return false
			}
		}
		return true
	case reflect.Struct:
		for i := range x.NumField() {
			if !same(x.Field(i), y.Field(i)) {
				return false
			}
		}
		return true
	}
	return reflect.DeepEqual(x.Interface(), y.Interface())
}

// wantAll fails if some kind of case was never met, so that a test does not pass for nothing.
func wantAll[K comparable](t *testing.T, met map[K]int, kinds ...K) {
	t.Helper()
	for _, kind := range kinds {
		if met[kind] < 5 {
			t.Errorf("only %d cases: %v", met[kind], kind)
		}
	}
}
