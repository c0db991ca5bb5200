package share

import "bathyal/api"

// part is the part of a person in a landing.
type part struct {
	landing int
	person  int
}

// settled is a season with its common denominator, and the claims that those who share the landings have on them, times that denominator.
type settled struct {
	api.ShareSeason
	denominator int
	claims      map[part]int
}

// settle returns a season with its claims.
func settle(s api.ShareSeason) settled {
	x := settled{ShareSeason: s, denominator: 1, claims: map[part]int{}}
	for landing := range x.Landings {
		x.denominator = leastMultiple(x.denominator, partsOf(x.sharers(landing)))
	}
	for landing, g := range x.Landings {
		each := net(g) * (x.denominator / partsOf(x.sharers(landing)))
		for person, p := range x.Persons {
			if x.has(part{landing, person}) {
				x.claims[part{landing, person}] = each * p.Parts
			}
		}
	}
	return x
}

// has reports whether a person is among those who share a landing.
func (x settled) has(p part) bool {
	return has(x.Landings[p.landing].Crew, p.person) && shares(x.Persons[p.person])
}

// sharers returns those who share a landing. The house is always among them.
func (x settled) sharers(landing int) []api.SharePerson {
	var sharers []api.SharePerson
	for person, p := range x.Persons {
		if x.has(part{landing, person}) {
			sharers = append(sharers, p)
		}
	}
	return sharers
}

// leastMultiple returns the least common multiple of two numbers.
func leastMultiple(a, b int) int {
	divisor, rest := a, b
	for rest > 0 {
		divisor, rest = rest, divisor%rest
	}
	return a / divisor * b
}

// row returns the claims of all persons on a landing.
func (x settled) row(landing int) []int {
	row := make([]int, len(x.Persons))
	for person := range row {
		row[person] = x.claims[part{landing, person}]
	}
	return row
}

// column returns the claims of a person on all landings.
func (x settled) column(person int) []int {
	column := make([]int, len(x.Landings))
	for landing := range column {
		column[landing] = x.claims[part{landing, person}]
	}
	return column
}

// totals returns the claims of all persons.
func (x settled) totals() []int {
	totals := make([]int, len(x.Persons))
	for person := range totals {
		totals[person] = sum(x.column(person)...)
	}
	return totals
}

// share returns the share of a person.
func (x settled) share(person int) int { return sum(x.column(person)...) / x.denominator }

// inTheEnd returns what each person has in the end. The house is like one who stays, but has what is worked off, and pays for what is missing.
func (x settled) inTheEnd() []api.ShareEnd {
	all := make([]api.ShareEnd, len(x.Persons))
	more := 0
	for person, p := range x.Persons {
		all[person] = fateOf(p.Fate).end(x.share(person), p.Debt)
		more += all[person].Off
	}
	for _, g := range x.Landings {
		more -= deficit(g)
	}
	all[house].Paid += more
	return all
}

// box returns what is in the box.
func (x settled) box() int {
	box := 0
	for _, g := range x.Landings {
		box += net(g)
	}
	for person := range x.Persons {
		box -= x.share(person)
	}
	return box
}

// Claims returns the claim of each person, times the common denominator, and that denominator.
func Claims(s api.ShareSeason) ([]int, int, api.Errno) {
	if e := Check(s); e != api.OK {
		return nil, 0, e
	}
	x := settle(s)
	return x.totals(), x.denominator, api.OK
}

// Settle returns what each person has in the end, and what is in the box.
func Settle(s api.ShareSeason) ([]api.ShareEnd, int, api.Errno) {
	if e := Check(s); e != api.OK {
		return nil, 0, e
	}
	x := settle(s)
	return x.inTheEnd(), x.box(), api.OK
}
