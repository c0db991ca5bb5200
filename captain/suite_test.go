package captain_test

import (
	"slices"
	"testing"

	"bathyal/api"
	"bathyal/captain"
)

// badGrounds returns the suite s with grounds that are not as defined.
func badGrounds() []api.CaptainSuite {
	var bad []api.CaptainSuite
	add := func(change func(*api.BedsGround)) {
		bad = append(bad, withSuite(func(s *api.CaptainSuite) { change(&s.Ground) }))
	}
	add(func(g *api.BedsGround) { g.Beds = nil })
	add(func(g *api.BedsGround) { g.Beds = slices.Repeat(g.Beds, api.BedsFew+1) })
	for _, n := range append(badNumbers(1, api.BedsFew), 0) {
		add(func(g *api.BedsGround) { g.Boats = n })
		add(func(g *api.BedsGround) { g.Years = n })
	}
	for _, x := range badSpans(0, api.BedsPieces) {
		add(func(g *api.BedsGround) { g.Beds[0].Start[2] = x })
	}
	add(func(g *api.BedsGround) { g.Beds[0].Start = g.Beds[0].Start[:3] })
	add(func(g *api.BedsGround) { g.Beds[0].Within = 0 })
	add(func(g *api.BedsGround) { g.Beds[0].Leave = 21 })
	add(func(g *api.BedsGround) { g.Beds[0].High = 101 })
	add(func(g *api.BedsGround) { g.Beds = append(g.Beds, api.BedsBed{}) })
	return bad
}

// badCrowds returns the suite s with tables, men and persons that are not as defined.
func badCrowds() []api.CaptainSuite {
	bad := []api.CaptainSuite{crowd(0, 3), crowd(1, 0), crowd(1, 1), crowd(2, 2), crowd(4, 4), crowd(3, 2), crowd(5, 6), crowd(1, 7), crowd(100, 101)}
	add := func(change func(*api.CaptainSuite)) { bad = append(bad, withSuite(change)) }
	add(func(s *api.CaptainSuite) { s.Table.Parts = nil })
	add(func(s *api.CaptainSuite) { s.Table.Parts = s.Table.Parts[:1] })
	add(func(s *api.CaptainSuite) { s.Table.Parts[1].Limit = -1 })
	add(func(s *api.CaptainSuite) { s.Table.Parts[0].Slope = api.GasSlope + 1 })
	add(func(s *api.CaptainSuite) { s.Table.Stops = l(4, 2) })
	add(func(s *api.CaptainSuite) { s.Table.Stops = l(2, 2) })
	add(func(s *api.CaptainSuite) { s.Table.Stops = l(0) })
	add(func(s *api.CaptainSuite) { s.Table.Stops = l(1, 2, 3, 4, 5) })
	for i := range 2 {
		add(func(s *api.CaptainSuite) { s.Men[i].Rates = nil })
		add(func(s *api.CaptainSuite) { s.Men[i].Rates = s.Men[i].Rates[:1] })
		add(func(s *api.CaptainSuite) { s.Men[i].Rates = append(s.Men[i].Rates, just(1)) })
		for _, x := range append(badSpans(1, api.GasRate), sp(1, api.GasRates+2)) {
			add(func(s *api.CaptainSuite) { s.Men[i].Rates[1] = x })
		}
	}
	for i := range 3 {
		for _, f := range []api.ShareFate{0, api.ShareDeserts, api.ShareDies, 4, most, least} {
			add(func(s *api.CaptainSuite) { s.Persons[i].Fate = f })
		}
		for _, n := range append(badNumbers(1, 22), 0) {
			add(func(s *api.CaptainSuite) { s.Persons[i].Parts = n })
		}
		for _, n := range badNumbers(0, api.ShareCoins) {
			add(func(s *api.CaptainSuite) { s.Persons[i].Debt = n })
		}
	}
	add(func(s *api.CaptainSuite) { s.Persons[0].Debt = 1 })
	return bad
}

// badLofts returns the suite s with rules and marts that are not as defined.
func badLofts() []api.CaptainSuite {
	var bad []api.CaptainSuite
	add := func(change func(*api.CaptainSuite)) { bad = append(bad, withSuite(change)) }
	add(func(s *api.CaptainSuite) { s.Rule.Grades = nil })
	add(func(s *api.CaptainSuite) { s.Rule.Grades = slices.Repeat(s.Rule.Grades, 2) })
	add(func(s *api.CaptainSuite) { s.Rule.Grades[2].Forms = 0 })
	add(func(s *api.CaptainSuite) { s.Rule.Grades[0].Forms = 16 })
	for _, n := range badNumbers(0, api.LoftError) {
		add(func(s *api.CaptainSuite) { s.Rule.Pore = n })
		add(func(s *api.CaptainSuite) { s.Rule.Size = n })
		add(func(s *api.CaptainSuite) { s.Rule.Kerf = n })
	}
	add(func(s *api.CaptainSuite) { s.Marts = nil })
	add(func(s *api.CaptainSuite) { s.Marts = slices.Repeat(s.Marts, 2) })
	add(func(s *api.CaptainSuite) { s.Marts[0].Prices = nil })
	add(func(s *api.CaptainSuite) { s.Marts[0].Prices, s.Marts[1].Prices = nil, nil })
	add(func(s *api.CaptainSuite) { s.Marts[0].Prices = slices.Repeat(s.Marts[0].Prices, 100) })
	for i := range 2 {
		add(func(s *api.CaptainSuite) { s.Marts[i].Prices = s.Marts[i].Prices[:1] })
		add(func(s *api.CaptainSuite) { s.Marts[i].Prices = append(s.Marts[i].Prices, just(1)) })
		add(func(s *api.CaptainSuite) { s.Marts = append(s.Marts, api.MarketMart{}) })
		for _, x := range badSpans(0, api.MarketWorth) {
			add(func(s *api.CaptainSuite) { s.Marts[i].Prices[1] = x })
		}
		for _, n := range badNumbers(0, api.MarketRate) {
			add(func(s *api.CaptainSuite) { s.Marts[i].Rate = n })
		}
		for _, n := range badNumbers(0, api.MarketTakes) {
			add(func(s *api.CaptainSuite) { s.Marts[i].Takes = n })
		}
	}
	add(func(s *api.CaptainSuite) {
		for i := range s.Marts {
			s.Marts[i].Prices = slices.Repeat(spans(just(1)), api.MarketGrades+1)
		}
	})
	return bad
}

// badSuites returns suites that are not as defined.
func badSuites() []api.CaptainSuite {
	return slices.Concat([]api.CaptainSuite{{}}, badGrounds(), badCrowds(), badLofts())
}

// goodSuites returns suites that are as defined, at the ends of what there can be.
func goodSuites() []api.CaptainSuite {
	return []api.CaptainSuite{
		suiteS(), widest(), narrowest(), fleet(4, 4), fleet(1, 4), fleet(4, 1), crowd(1, 2), crowd(1, 6), crowd(2, 3), crowd(4, 5), crowd(4, 6),
		// a rule with fewer grades than the marts have, and marts with fewer than the rule has
		withSuite(func(s *api.CaptainSuite) { s.Rule.Grades = s.Rule.Grades[:1] }),
		withSuite(func(s *api.CaptainSuite) {
			s.Marts = s.Marts[:1]
			s.Marts[0].Prices = s.Marts[0].Prices[:1]
		}),
		// no stops, and a table that a man on land does not keep
		withSuite(func(s *api.CaptainSuite) { s.Table.Stops = nil }),
		withSuite(func(s *api.CaptainSuite) { s.Table.Parts[0].Limit = 0 }),
	}
}

// P10.1
func TestCheck(t *testing.T) {
	for i, s := range goodSuites() {
		if e := captain.Check(s); e != api.OK {
			t.Error(i, s, e)
		}
	}
	for i, s := range badSuites() {
		if e := captain.Check(s); e != api.ErrArg {
			t.Error(i, s, e)
		}
	}
}

// P10.1: of random suites, which are as defined, and of those of which one thing was changed
func TestCheckOfAny(t *testing.T) {
	r := source(1)
	for range 2000 {
		s := anySuite(r)
		if e := captain.Check(s); e != api.OK {
			t.Fatal(s, e)
		}
		i := r.Intn(len(s.Persons))
		bad := copied(s)
		bad.Persons[i].Fate = api.ShareFate(anyOf(r, 2, 3))
		worse := copied(s)
		worse.Persons = worse.Persons[:anyOf(r, 0, len(s.Men))]
		for _, x := range []api.CaptainSuite{bad, worse} {
			if e := captain.Check(x); e != api.ErrArg {
				t.Fatal(x, e)
			}
		}
	}
}

// P10.1
func TestOpen(t *testing.T) {
	for _, s := range goodSuites() {
		c := opened(t, s)
		if j := journalOf(t, c); j != "" {
			t.Errorf("%q", j)
		}
		none := make([]int, len(s.Marts[0].Prices))
		answers(t, c, ask(api.CaptainStock), none...)
		answers(t, c, ask(api.CaptainSure), 0, 0)
		answers(t, c, ask(api.CaptainBest), append(slices.Repeat(none, len(s.Marts)), 0, 0)...)
		answers(t, c, ask(api.CaptainBox), 0)
		for i, p := range s.Persons {
			answers(t, c, ask(api.CaptainEnd, i), 0, 0, 0, p.Debt, 0)
		}
		for i := range s.Men {
			answers(t, c, ask(api.CaptainHeld, i), slices.Repeat(l(1000), 2*len(s.Table.Parts))...)
		}
	}
	for i, s := range badSuites() {
		if c, e := captain.Open(s); e != api.ErrArg || c != nil {
			t.Error(i, s, c, e)
		}
	}
}

// P10.1 to P10.3, P10.8: no captain, and one whom Open and Replay did not make
func TestNobody(t *testing.T) {
	for _, c := range []*captain.Captain{nil, {}, new(captain.Captain)} {
		for _, a := range acts(cut(0, 4), act(0), cut(9, 9), cut(0, -1)) {
			if e := c.Act(a); e != api.ErrNil {
				t.Error(a, e)
			}
		}
		for _, q := range append(asks(), ask(0), ask(api.CaptainMost), ask(api.CaptainMost, -1)) {
			if n, e := c.Ask(q); e != api.ErrNil || len(n) != 0 {
				t.Error(q, n, e)
			}
		}
		if j, e := c.Journal(); e != api.ErrNil || j != "" {
			t.Error(j, e)
		}
	}
}
