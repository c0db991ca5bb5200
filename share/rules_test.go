package share_test

import (
	"math"
	"math/rand"
	"slices"
	"testing"

	"bathyal/api"
	"bathyal/share"
)

// settled returns the shares of all persons of a season.
func settled(t *testing.T, s api.ShareSeason) []int {
	t.Helper()
	ends, _, e := share.Settle(s)
	if e != api.OK {
		t.Fatal(s, e)
	}
	var shares []int
	for _, x := range ends {
		shares = append(shares, x.Share)
	}
	return shares
}

// P5.10: who has more parts never has a lesser share for it, and nobody else has a greater one
func TestMoreParts(t *testing.T) {
	r := source(18)
	met := map[string]int{}
	for range 3000 {
		s := anySeason(r)
		was := settled(t, s)
		x := copyOf(s)
		person := r.Intn(len(s.Persons))
		x.Persons[person].Parts += anyOf(r, 1, 6)
		if share.Check(x) != api.OK {
			continue
		}
		for other, is := range settled(t, x) {
			if other == person && is < was[other] || other != person && is > was[other] {
				t.Fatal(s, x, was, other, is)
			}
			if other == person && is > was[other] {
				met["more"]++
			}
			if other != person && is < was[other] {
				met["less"]++
			}
		}
	}
	wantAll(t, met, "more", "less")
}

// P5.10: if somebody deserts, nobody else has a lesser share
func TestDeserts(t *testing.T) {
	r := source(19)
	met := map[string]int{}
	for range 3000 {
		s := anySeason(r)
		was := settled(t, s)
		x := copyOf(s)
		person := anyOf(r, 1, len(s.Persons)-1)
		x.Persons[person].Fate = api.ShareDeserts
		for other, is := range settled(t, x) {
			if other == person && is != 0 || other != person && is < was[other] {
				t.Fatal(s, x, was, other, is)
			}
			if other != person && is > was[other] {
				met["more"]++
			}
		}
	}
	wantAll(t, met, "more")
}

// P5.10: two persons who always take part together can have at most one coin more as one person
func TestTogether(t *testing.T) {
	r := source(20)
	met := map[int]int{}
	for range 4000 {
		s := anySeason(r)
		last := len(s.Persons) - 1
		first := r.Intn(last)
		if len(s.Persons) == 2 {
			continue
		}
		a, b := &s.Persons[first], s.Persons[last]
		if a.Fate == api.ShareDeserts || b.Fate == api.ShareDeserts {
			continue
		}
		for landing := range s.Landings {
			crew := &s.Landings[landing].Crew
			*crew &^= 1 << last
			if *crew>>first&1 == 1 {
				*crew |= 1 << last
			}
		}
		two := settled(t, s)
		x := copyOf(s)
		x.Persons[first].Parts += b.Parts
		x.Persons = x.Persons[:last]
		for landing := range x.Landings {
			x.Landings[landing].Crew &^= 1 << last
		}
		one := settled(t, x)
		more := one[first] - two[first] - two[last]
		if more < 0 || more > 1 {
			t.Fatal(s, x, two, one)
		}
		met[more]++
		for other, is := range one {
			if other != first && is != two[other] {
				t.Fatal(s, x, two, one)
			}
		}
	}
	wantAll(t, met, 0, 1)
}

// results is the results of a call, of which the last one is its error.
type results []any

// given is arguments of all functions.
type given struct {
	season           api.ShareSeason
	person, may      int
	share            int
	wishes, advances []int
	budget, pool     int
	book             api.ShareBook
	text             string
}

// asked returns the results of all functions.
func asked(g given) []results {
	var all []results
	add := func(r ...any) { all = append(all, r) }
	add(share.Check(g.season))
	claims, n, e := share.Claims(g.season)
	add(claims, n, e)
	ends, n, e := share.Settle(g.season)
	add(ends, n, e)
	span, e := share.Owed(g.season, g.person, g.may)
	add(span, e)
	trips, e := share.Trips(g.season, g.person, g.share)
	add(trips, e)
	easter, e := share.Easter(g.season, g.wishes, g.budget, g.pool)
	add(easter, e)
	debts, e := share.Next(g.season, g.advances)
	add(debts, e)
	book, e := share.Book(g.season)
	add(book, e)
	is, e := share.Closes(g.book)
	add(is, e)
	fix, e := share.Mend(g.book)
	add(fix, e)
	text, e := share.Print(g.season)
	add(text, e)
	read, e := share.Read(g.text)
	add(read, e)
	return all
}

// isZero reports whether a result is what it is together with an error.
func isZero(result any) bool {
	switch x := result.(type) {
	case bool:
		return !x
	case int:
		return x == 0
	case string:
		return x == ""
	case api.Span:
		return x == api.Span{}
	case api.ShareFix:
		return x == api.ShareFix{}
	case api.ShareBook:
		return equal(x, api.ShareBook{})
	case api.ShareSeason:
		return equal(x, api.ShareSeason{})
	case []int:
		return len(x) == 0
	case []api.ShareEnd:
		return len(x) == 0
	}
	return false
}

// wild returns a number, or one that is out of all ranges.
func wild(r *rand.Rand, n int) int {
	all := l(math.MinInt, math.MinInt+1, -256, -2, -1, 0, 1, 4, 7, 25, 64, 100001, 600001, api.ShareMost+1, 1<<31, 1<<32+1, math.MaxInt-1, math.MaxInt)
	if r.Intn(60) > 0 {
		return n
	}
	return all[r.Intn(len(all))]
}

// wildList returns a list with some numbers that are out of all ranges, or with one number more or less.
func wildList(r *rand.Rand, list []int) []int {
	var all []int
	for _, n := range list {
		all = append(all, wild(r, n))
	}
	switch r.Intn(40) {
	case 0:
		all = append(all, r.Intn(4))
	case 1:
		all = all[:len(all)/2]
	}
	return all
}

// wildSeason returns a season, be it as defined or not.
func wildSeason(r *rand.Rand) api.ShareSeason {
	s := anySeason(r)
	for i, p := range s.Persons {
		s.Persons[i] = api.SharePerson{Parts: wild(r, p.Parts), Debt: wild(r, p.Debt), Fate: api.ShareFate(wild(r, int(p.Fate)))}
	}
	for i, g := range s.Landings {
		s.Landings[i] = api.ShareLanding{Gross: wild(r, g.Gross), Costs: wild(r, g.Costs), Crew: wild(r, g.Crew)}
	}
	switch r.Intn(30) {
	case 0:
		s.Persons = s.Persons[:r.Intn(2)]
	case 1:
		s.Persons = slices.Repeat(s.Persons, 4)
	case 2:
		s.Landings = slices.Repeat(s.Landings, 4)
	}
	return s
}

// wildBook returns a book, be it as defined or not, that may close.
func wildBook(r *rand.Rand) api.ShareBook {
	b := closed(r, 3)
	if all := places(&b); r.Intn(2) == 0 {
		*all[r.Intn(len(all))].number += r.Intn(5)
	}
	for i := range b.Rows {
		b.Rows[i] = wildList(r, b.Rows[i])
	}
	return api.ShareBook{Rows: b.Rows, Across: wildList(r, b.Across), Down: wildList(r, b.Down), All: wild(r, b.All)}
}

// anything returns arguments, be they as defined or not.
func anything(r *rand.Rand) given {
	s := wildSeason(r)
	g := given{season: s, person: wild(r, r.Intn(4)), may: wild(r, r.Intn(4)*2), share: wild(r, r.Intn(3)), budget: wild(r, r.Intn(100)), pool: wild(r, r.Intn(1000)), book: wildBook(r)}
	for person := range s.Persons {
		wish, advance := r.Intn(9), 0
		if person == 0 {
			wish = 0
		} else if s.Persons[person].Fate == api.ShareStays {
			advance = r.Intn(9)
		}
		g.wishes, g.advances = append(g.wishes, wish), append(g.advances, advance)
	}
	g.wishes, g.advances = wildList(r, g.wishes), wildList(r, g.advances)
	g.text = checked("season 2 1\nperson 1 0 stays\nperson 2 7 dies\nlanding 90 15 0 " + string([]byte{byte(47 + r.Intn(12))}) + "\n")
	return g
}

// P0.1, R2, R8: for all arguments, the functions end and do not panic, say the same again, and nothing but an error where there is one
func TestAnyValue(t *testing.T) {
	r := source(21)
	met := map[any]int{}
	for range 6000 {
		g := anything(r)
		a := asked(g)
		if b := asked(g); !equal(a, b) {
			t.Fatal(g, a, b)
		}
		for i, result := range a {
			last := len(result) - 1
			met[result[last]]++
			if result[last] != api.OK && slices.ContainsFunc(result[:last], func(x any) bool { return !isZero(x) }) {
				t.Fatal(g, i, result)
			}
			if result[last] == api.OK {
				met[i]++
			}
		}
	}
	wantAll(t, met, any(api.OK), any(api.ErrArg), any(api.ErrText), any(api.ErrNone), any(api.ErrRule))
	for i := range 12 {
		wantAll(t, met, any(i))
	}
}

// R3: nil and empty lists are the same
func TestNilAndEmpty(t *testing.T) {
	check := func(a, b given) {
		t.Helper()
		if v, w := asked(a), asked(b); !equal(v, w) {
			t.Error(v, w)
		}
	}
	a := roomy()
	b := a
	a.season.Landings, b.season.Landings = nil, []api.ShareLanding{}
	check(a, b)
	a.season, b.season = api.ShareSeason{}, api.ShareSeason{Persons: []api.SharePerson{}, Landings: []api.ShareLanding{}}
	check(a, b)
	a, b = roomy(), roomy()
	a.wishes, b.wishes, a.advances, b.advances = nil, []int{}, []int{}, nil
	check(a, b)
	a.book, b.book = api.ShareBook{All: 1}, api.ShareBook{Rows: [][]int{}, Across: []int{}, Down: []int{}, All: 1}
	check(a, b)
	a.book, b.book = api.ShareBook{Rows: rows(nil, nil), Across: l(0, 1)}, api.ShareBook{Rows: rows(l(), l()), Across: l(0, 1), Down: l()}
	check(a, b)
}

// fill returns a list that has room for more, which is filled with 9.
func fill(list []int) []int {
	all := slices.Concat(list, l(9, 9, 9, 9))
	return all[:len(list)]
}

// fillThings returns a list of things that has room for more, which is filled with copies of the first one.
func fillThings[T any](list []T) []T {
	all := slices.Concat(list, slices.Repeat(list[:1], 4))
	return all[:len(list)]
}

// roomy returns arguments of lists that have room for more, for which all functions have results.
func roomy() given {
	s, b := seasonS(), booked(func(b *api.ShareBook) { b.Rows[0][1] = 2010 })
	s.Persons, s.Landings = fillThings(s.Persons), fillThings(s.Landings)
	for row := range b.Rows {
		b.Rows[row] = fill(b.Rows[row])
	}
	b.Rows, b.Across, b.Down = fillThings(b.Rows), fill(b.Across), fill(b.Down)
	return given{season: s, person: 1, may: 4, share: 53, wishes: fill(l(0, 30, 30)), advances: fill(l(0, 5, 7)), budget: 41, pool: 300, book: b, text: textX}
}

// room returns all lists of arguments with what is behind their ends.
func room(g given) []any {
	var all []any
	for _, list := range slices.Concat(g.book.Rows, rows(g.wishes, g.advances, g.book.Across, g.book.Down)) {
		all = append(all, list[:len(list)+4])
	}
	s, b := g.season, g.book
	return append(all, s.Persons[:len(s.Persons)+4], s.Landings[:len(s.Landings)+4], b.Rows[:len(b.Rows)+4])
}

// R4: no argument is changed, also beyond the end of a list
func TestArguments(t *testing.T) {
	g := roomy()
	for i, r := range asked(g) {
		if e := r[len(r)-1]; e != api.OK {
			t.Error(i, r)
		}
	}
	if !equal(room(g), room(roomy())) {
		t.Error(g)
	}
}

// R4: lists of a result share no memory with each other, nor with arguments
func TestResults(t *testing.T) {
	g := roomy()
	var all [][]int
	for range 2 {
		for _, r := range asked(g) {
			for _, x := range r {
				switch x := x.(type) {
				case []int:
					all = append(all, x)
				case api.ShareBook:
					all = slices.Concat(all, x.Rows, rows(x.Across, x.Down))
				}
			}
		}
	}
	if len(all) != 2*(4+5) {
		t.Error(len(all))
	}
	for i := range all {
		all[i] = append(all[i], 99)
	}
	for i := range all {
		for k := range all[i] {
			all[i][k] = i
		}
	}
	for i := range all {
		if slices.ContainsFunc(all[i], func(n int) bool { return n != i }) {
			t.Error(all)
		}
	}
	ends, _, _ := share.Settle(g.season)
	ends[0] = api.ShareEnd{}
	read, _ := share.Read(textX)
	read.Persons[0], read.Landings[0] = api.SharePerson{}, api.ShareLanding{}
	if again, e := share.Read(textX); e != api.OK || !equal(again, seasonX()) {
		t.Error(again, e)
	}
	if !equal(room(g), room(roomy())) {
		t.Error(g)
	}
}
