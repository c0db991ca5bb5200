package captain_test

import (
	"math/rand"
	"slices"

	"bathyal/api"
)

// anyBed returns a bed, mostly one that can be cut.
func anyBed(r *rand.Rand) api.BedsBed {
	b := api.BedsBed{Low: anyOf(r, 20, 80), Within: anyOf(r, 1, 4)}
	for _, few := range l(0, 5, 8, 12) {
		b.Start = append(b.Start, around(r, few, few+15, 3))
	}
	b.High = anyOf(r, b.Low, api.BedsWhole)
	b.Full = anyOf(r, 4, b.Start[3].Low+1)
	b.Leave = anyOf(r, 0, b.Full)
	return b
}

// anyTable returns a table and some men for it; seldom one that they do not even keep on land.
func anyTable(r *rand.Rand) (api.GasTable, []api.GasMan) {
	var t api.GasTable
	for range anyOf(r, 1, api.GasParts) {
		t.Parts = append(t.Parts, api.GasPart{Limit: anyOf(r, 1150, 1800), Slope: anyOf(r, 50, 250)})
	}
	if r.Intn(15) == 0 {
		t.Parts[0].Limit = 990
	}
	for depth := 1; depth <= 6 && len(t.Stops) < api.GasStops; depth++ {
		if r.Intn(2) == 0 {
			t.Stops = append(t.Stops, depth)
		}
	}
	men := make([]api.GasMan, anyOf(r, 1, api.CaptainMen))
	for i := range men {
		for range t.Parts {
			men[i].Rates = append(men[i].Rates, around(r, 10, 100, 4))
		}
	}
	return t, men
}

// anyRule returns a rule of wide grades.
func anyRule(r *rand.Rand) api.LoftRule {
	q := api.LoftRule{Pore: r.Intn(3), Size: r.Intn(3), Kerf: r.Intn(3)}
	for range anyOf(r, 1, 4) {
		pore, size := around(r, 0, 12, 28), around(r, 0, 12, 28)
		q.Grades = append(q.Grades, grade(anyOf(r, 1, 15), pore, size, anyOf(r, 0, 99)))
	}
	return q
}

// anyMarts returns marts, mostly of two grades.
func anyMarts(r *rand.Rand) []api.MarketMart {
	marts := make([]api.MarketMart, anyOf(r, 1, api.MarketMarts))
	grades := max(anyOf(r, 1, 2), anyOf(r, 1, 2))
	for i := range marts {
		marts[i] = mart(anyOf(r, 0, api.MarketRate), anyOf(r, 0, 40), anyOf(r, 0, 8))
		for range grades {
			marts[i].Prices = append(marts[i].Prices, around(r, 0, 90, 60))
		}
	}
	return marts
}

// anySuite returns a suite.
func anySuite(r *rand.Rand) api.CaptainSuite {
	s := api.CaptainSuite{Ground: api.BedsGround{Boats: anyOf(r, 1, 3), Years: anyOf(r, 1, 4)}, Rule: anyRule(r), Marts: anyMarts(r)}
	for range anyOf(r, 1, api.BedsFew) {
		s.Ground.Beds = append(s.Ground.Beds, anyBed(r))
	}
	s.Table, s.Men = anyTable(r)
	for range anyOf(r, len(s.Men)+1, api.ShareFew) {
		s.Persons = append(s.Persons, person(anyOf(r, 1, 4), anyOf(r, 0, 60)))
	}
	s.Persons[0].Debt = 0
	return s
}

// nearly returns a number, or seldom another one.
func nearly(r *rand.Rand, n int) int {
	all := l(0, 1, 2, 4, 6, 7, 9, 16, 41, 121, 100001, api.CaptainNumber)
	if r.Intn(40) > 0 {
		return n
	}
	return all[r.Intn(len(all))]
}

// anyCut returns a cut of about as many as there may be.
func anyCut(r *rand.Rand, m *model) api.CaptainAct {
	bed := r.Intn(len(m.s.Ground.Beds))
	pieces := 0
	for lawful(m.s.Ground.Beds[bed], pieces+1) {
		pieces++
	}
	if r.Intn(2) == 0 {
		pieces = max(0, pieces-1+r.Intn(3))
	}
	return cut(nearly(r, bed), nearly(r, pieces))
}

// anyDive returns a dive that is not deep.
func anyDive(r *rand.Rand, m *model) api.CaptainAct {
	n := l(nearly(r, r.Intn(len(m.s.Men))))
	for range 1 + r.Intn(5)/3 {
		depth, minutes := around(r, 0, 12, 1), around(r, 0, 6, 1)
		n = append(n, nearly(r, depth.Low), nearly(r, depth.High), nearly(r, minutes.Low), nearly(r, minutes.High))
	}
	return dive(n...)
}

// anyLand returns a landing, mostly of persons who are in order.
func anyLand(r *rand.Rand, m *model) api.CaptainAct {
	n := l(nearly(r, anyOf(r, 0, 200)), nearly(r, anyOf(r, 0, 100)), 0)
	for p := range m.s.Persons {
		idle := inside(p, 1, len(m.s.Men)) && len(m.stages[p-1]) == 0
		if p > 0 && r.Intn(2) == 0 && (!idle || r.Intn(8) == 0) {
			n = append(n, nearly(r, p))
		}
	}
	if r.Intn(20) == 0 {
		slices.Reverse(n[2:])
	}
	return land(n...)
}

// anyReading returns a reading, mostly one that lies within a grade of the marts.
func anyReading(r *rand.Rand, m *model) []int {
	if r.Intn(4) == 0 {
		return l(nearly(r, anyOf(r, 1, 15)), nearly(r, anyOf(r, 0, api.LoftPore)), nearly(r, anyOf(r, 0, api.LoftSize)))
	}
	g := m.s.Rule.Grades[r.Intn(min(len(m.s.Rule.Grades), 2))]
	forms := g.Forms & -g.Forms
	if r.Intn(4) == 0 {
		forms = g.Forms
	}
	return l(nearly(r, forms), nearly(r, (g.Pore.Low+g.Pore.High)/2), nearly(r, (g.Size.Low+g.Size.High)/2))
}

// anySell returns a sale of a few bales.
func anySell(r *rand.Rand, m *model) api.CaptainAct {
	return sell(nearly(r, r.Intn(len(m.sold))), nearly(r, r.Intn(len(m.sold[0]))), nearly(r, anyOf(r, 1, 3)))
}

// anyAct returns an act, mostly one that is formed.
func anyAct(r *rand.Rand, m *model) api.CaptainAct {
	var a api.CaptainAct
	switch r.Intn(13) {
	case 0, 1:
		a = anyCut(r, m)
	case 2, 3, 4:
		a = anyDive(r, m)
	case 5, 6:
		a = anyLand(r, m)
	case 7, 8, 9:
		a = sorted(anyReading(r, m)...)
	case 10, 11:
		a = anySell(r, m)
	default:
		a = fate(nearly(r, r.Intn(len(m.s.Persons))), nearly(r, anyOf(r, 2, 3)))
	}
	switch r.Intn(120) {
	case 0:
		a.Kind = api.CaptainKind(anyOf(r, -1, 8))
	case 1:
		a.Numbers = a.Numbers[:r.Intn(len(a.Numbers))]
	case 2:
		a.Numbers = append(a.Numbers, 1)
	case 3:
		a.Numbers[r.Intn(len(a.Numbers))] = l(-1, least, most, api.CaptainNumber+1)[r.Intn(4)]
	}
	return a
}

// anyAsk returns a question, mostly one that has an answer.
func anyAsk(r *rand.Rand, m *model) api.CaptainQuestion {
	q := ask(api.CaptainAsk(anyOf(r, 1, 9)))
	switch q.Kind {
	case api.CaptainMost:
		q.Numbers = l(r.Intn(len(m.s.Ground.Beds)))
	case api.CaptainStop, api.CaptainHeld:
		q.Numbers = l(r.Intn(len(m.s.Men)))
	case api.CaptainEnd:
		q.Numbers = l(r.Intn(len(m.s.Persons)))
	case api.CaptainCould:
		q.Numbers = anyReading(r, m)
	}
	for i, n := range q.Numbers {
		q.Numbers[i] = nearly(r, n)
	}
	switch r.Intn(80) {
	case 0:
		q.Kind = api.CaptainAsk(anyOf(r, -1, 11))
	case 1:
		q.Numbers = append(q.Numbers, 0)
	case 2:
		q.Numbers = q.Numbers[:len(q.Numbers)/2]
	case 3:
		for i := range q.Numbers {
			q.Numbers[i] = l(-1, least, most, api.CaptainNumber+1)[r.Intn(4)]
		}
	}
	return q
}

// anySeason returns a suite and so many acts that were tried, of which those that are allowed were done in the model.
func anySeason(r *rand.Rand, tries int) (*model, []api.CaptainAct) {
	m := newModel(anySuite(r))
	var done []api.CaptainAct
	for range tries {
		if a := anyAct(r, m); m.act(a) == api.OK {
			done = append(done, a)
		}
	}
	return m, done
}
