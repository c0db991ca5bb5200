package captain_test

import (
	"math/rand"
	"reflect"
	"slices"
	"strings"
	"testing"

	"bathyal/api"
	"bathyal/captain"
)

const most, least = 1<<63 - 1, -1 << 63

func sp(low, high int) api.Span { return api.Span{Low: low, High: high} }

func just(n int) api.Span { return sp(n, n) }

func spans(s ...api.Span) []api.Span { return s }

func l(n ...int) []int { return n }

func act(kind api.CaptainKind, n ...int) api.CaptainAct {
	return api.CaptainAct{Kind: kind, Numbers: n}
}

func cut(n ...int) api.CaptainAct { return act(api.CaptainCut, n...) }

func dive(n ...int) api.CaptainAct { return act(api.CaptainDive, n...) }

func land(n ...int) api.CaptainAct { return act(api.CaptainLand, n...) }

func sorted(n ...int) api.CaptainAct { return act(api.CaptainSort, n...) }

func sell(n ...int) api.CaptainAct { return act(api.CaptainSell, n...) }

func fate(n ...int) api.CaptainAct { return act(api.CaptainFate, n...) }

func acts(a ...api.CaptainAct) []api.CaptainAct { return a }

func ask(kind api.CaptainAsk, n ...int) api.CaptainQuestion {
	return api.CaptainQuestion{Kind: kind, Numbers: n}
}

// bedA returns the bed a of chapter 1.
func bedA() api.BedsBed {
	return api.BedsBed{Start: spans(just(0), sp(10, 12), just(10), sp(20, 22)), Low: 50, High: 100, Full: 20, Leave: 10, Within: 2}
}

// suiteS returns the suite s of the chapter.
func suiteS() api.CaptainSuite {
	return api.CaptainSuite{
		Ground:  api.BedsGround{Beds: []api.BedsBed{bedA()}, Boats: 1, Years: 1},
		Table:   api.GasTable{Parts: []api.GasPart{{Limit: 1600, Slope: 200}, {Limit: 1300, Slope: 150}}, Stops: l(2, 4)},
		Men:     []api.GasMan{{Rates: spans(just(100), sp(20, 25))}, {Rates: spans(just(80), just(20))}},
		Persons: []api.SharePerson{person(3, 0), person(2, 40), person(1, 0)},
		Rule:    api.LoftRule{Grades: []api.LoftGrade{grade(3, sp(0, 10), sp(20, 40), 100), grade(3, sp(0, 20), sp(10, 40), 40), grade(15, sp(0, 40), sp(5, 40), 10)}, Pore: 2, Size: 3, Kerf: 1},
		Marts:   []api.MarketMart{mart(10, 10, 3, sp(100, 120), sp(40, 60)), mart(0, 20, 4, sp(90, 150), just(50))},
	}
}

// person returns one who stays.
func person(parts, debt int) api.SharePerson {
	return api.SharePerson{Parts: parts, Debt: debt, Fate: api.ShareStays}
}

func grade(forms int, pore, size api.Span, price int) api.LoftGrade {
	return api.LoftGrade{Forms: forms, Pore: pore, Size: size, Price: price}
}

// mart returns a mart with a rate, a freight, how much it takes, and prices.
func mart(rate, freight, takes int, prices ...api.Span) api.MarketMart {
	return api.MarketMart{Prices: prices, Rate: rate, Freight: freight, Takes: takes}
}

// withSuite returns the suite s with something changed.
func withSuite(changes ...func(*api.CaptainSuite)) api.CaptainSuite {
	s := suiteS()
	for _, change := range changes {
		change(&s)
	}
	return s
}

// fleet returns the suite s with so many of its bed, and so many boats.
func fleet(beds, boats int) api.CaptainSuite {
	return withSuite(func(s *api.CaptainSuite) {
		s.Ground.Beds, s.Ground.Boats = slices.Repeat(s.Ground.Beds, beds), boats
	})
}

// crowd returns the suite s with as many men and persons.
func crowd(men, persons int) api.CaptainSuite {
	return withSuite(func(s *api.CaptainSuite) {
		s.Men, s.Persons = slices.Repeat(s.Men[:1], men), slices.Repeat(s.Persons[:1], persons)
	})
}

// widest returns a suite that has as much of everything as there can be.
func widest() api.CaptainSuite {
	full := api.BedsBed{Start: slices.Repeat(spans(sp(0, api.BedsPieces)), api.BedsClasses), High: api.BedsWhole, Full: api.BedsClasses * api.BedsPieces, Leave: api.BedsClasses * api.BedsPieces, Within: api.BedsWithin}
	return api.CaptainSuite{
		Ground:  api.BedsGround{Beds: slices.Repeat([]api.BedsBed{full}, api.BedsFew), Boats: api.BedsFew, Years: api.BedsYears},
		Table:   api.GasTable{Parts: slices.Repeat([]api.GasPart{{Limit: api.GasLimit, Slope: api.GasSlope}}, api.GasParts), Stops: l(1, 2, 3, api.GasDepth)},
		Men:     slices.Repeat([]api.GasMan{{Rates: spans(sp(388, api.GasRate), sp(1, 13), just(1))}}, api.CaptainMen),
		Persons: append([]api.SharePerson{person(4, 0)}, slices.Repeat([]api.SharePerson{person(4, api.ShareCoins)}, api.ShareFew-1)...),
		Rule:    api.LoftRule{Grades: slices.Repeat([]api.LoftGrade{grade(15, sp(0, api.LoftPore), sp(0, api.LoftSize), api.LoftPrice)}, api.LoftMany), Pore: api.LoftError, Size: api.LoftError, Kerf: api.LoftKerf},
		Marts:   slices.Repeat([]api.MarketMart{mart(api.MarketRate, api.MarketFreight, api.MarketTakes, slices.Repeat(spans(sp(0, api.MarketWorth)), api.MarketGrades)...)}, api.MarketMarts),
	}
}

// narrowest returns a suite that has as little of everything as there can be.
func narrowest() api.CaptainSuite {
	return api.CaptainSuite{
		Ground:  api.BedsGround{Beds: []api.BedsBed{{Start: make([]api.Span, api.BedsClasses), Within: 1}}, Boats: 1, Years: 1},
		Table:   api.GasTable{Parts: make([]api.GasPart, 1)},
		Men:     []api.GasMan{{Rates: spans(just(1))}},
		Persons: []api.SharePerson{person(1, 0), person(1, 0)},
		Rule:    api.LoftRule{Grades: []api.LoftGrade{grade(1, just(0), just(0), 0)}},
		Marts:   []api.MarketMart{mart(0, 0, 0, just(0))},
	}
}

// copied returns a suite that shares no memory with another one.
func copied(s api.CaptainSuite) api.CaptainSuite {
	s.Ground.Beds, s.Table.Parts, s.Table.Stops, s.Men = slices.Clone(s.Ground.Beds), slices.Clone(s.Table.Parts), slices.Clone(s.Table.Stops), slices.Clone(s.Men)
	s.Persons, s.Rule.Grades, s.Marts = slices.Clone(s.Persons), slices.Clone(s.Rule.Grades), slices.Clone(s.Marts)
	for i := range s.Ground.Beds {
		s.Ground.Beds[i].Start = slices.Clone(s.Ground.Beds[i].Start)
	}
	for i := range s.Men {
		s.Men[i].Rates = slices.Clone(s.Men[i].Rates)
	}
	for i := range s.Marts {
		s.Marts[i].Prices = slices.Clone(s.Marts[i].Prices)
	}
	return s
}

// opened returns a captain of a suite.
func opened(t *testing.T, s api.CaptainSuite) *captain.Captain {
	t.Helper()
	c, e := captain.Open(s)
	if e != api.OK || c == nil {
		t.Fatal(s, e)
	}
	return c
}

// played returns a captain of a suite with whom some acts were done.
func played(t *testing.T, s api.CaptainSuite, done ...api.CaptainAct) *captain.Captain {
	t.Helper()
	c := opened(t, s)
	for i, a := range done {
		if e := c.Act(a); e != api.OK {
			t.Fatal(i, a, e)
		}
	}
	return c
}

// journalOf returns the journal of a captain.
func journalOf(t *testing.T, c *captain.Captain) string {
	t.Helper()
	j, e := c.Journal()
	if e != api.OK {
		t.Fatal(e)
	}
	return j
}

// refuses checks that an act has an error, and changes nothing.
func refuses(t *testing.T, c *captain.Captain, want api.Errno, refused ...api.CaptainAct) {
	t.Helper()
	before := answersOf(t, c)
	for i, a := range refused {
		if e := c.Act(a); e != want {
			t.Error(i, a, e)
		}
	}
	if after := answersOf(t, c); !slices.Equal(after, before) {
		t.Error(after, before)
	}
}

// answers checks the answers of a question after some acts.
func answers(t *testing.T, c *captain.Captain, q api.CaptainQuestion, want ...int) {
	t.Helper()
	if n, e := c.Ask(q); e != api.OK || !slices.Equal(n, want) {
		t.Error(q, n, e)
	}
}

// asks returns all questions that there can be of a few beds, men and persons, and of some readings.
func asks() []api.CaptainQuestion {
	all := []api.CaptainQuestion{ask(api.CaptainBox), ask(api.CaptainStock), ask(api.CaptainSure), ask(api.CaptainBest), ask(api.CaptainCould, 1, 5, 25), ask(api.CaptainCould, 3, 10, 20)}
	for n := range api.ShareFew {
		for _, kind := range []api.CaptainAsk{api.CaptainMost, api.CaptainStop, api.CaptainHeld, api.CaptainEnd} {
			all = append(all, ask(kind, n))
		}
	}
	return all
}

// answersOf returns all that a captain answers: to all questions, and the journal.
func answersOf(t *testing.T, c *captain.Captain) []string {
	t.Helper()
	all := []string{journalOf(t, c)}
	for _, q := range asks() {
		n, e := c.Ask(q)
		if e != api.OK && len(n) > 0 {
			t.Fatal(q, n, e)
		}
		all = append(all, saying(n, e))
	}
	return all
}

// said returns how a line begins, and that it is answered so.
type said struct{ line, answer string }

// answered checks the lines with which a script is answered.
func answered(t *testing.T, s api.CaptainSuite, lines ...said) {
	t.Helper()
	var script, want strings.Builder
	for _, x := range lines {
		script.WriteString(x.line + "\n")
		want.WriteString(x.answer + "\n")
	}
	if got, e := captain.Console(s, script.String()); e != api.OK || got != want.String() {
		t.Errorf("%v %q, not %q", e, got, want.String())
	}
}

// badNumbers returns numbers that are not from low to high.
func badNumbers(low, high int) []int { return l(low-1, high+1, least, most) }

// badSpans returns spans that are not as defined, if they have to lie from low to high.
func badSpans(low, high int) []api.Span {
	return spans(sp(low-1, low), sp(low-1, high), sp(high, high+1), sp(low, high+1), sp(high, low), sp(least, most), sp(most, least), sp(least, low), sp(high, most))
}

// source returns numbers that are the same in each run.
func source(seed int64) *rand.Rand { return rand.New(rand.NewSource(seed)) }

// anyOf returns a number from low to high.
func anyOf(r *rand.Rand, low, high int) int { return low + r.Intn(high-low+1) }

// around returns a span of numbers that begins from low to high, and is at most so wide.
func around(r *rand.Rand, low, high, wide int) api.Span {
	n := anyOf(r, low, high)
	return sp(n, n+r.Intn(wide+1))
}

// equal compares values of any type; nil and empty lists are the same.
func equal(a, b any) bool {
	return same(reflect.ValueOf(a), reflect.ValueOf(b))
}

func same(x, y reflect.Value) bool {
	if x.Type() != y.Type() {
		return false
	}
	switch x.Kind() {
	case reflect.Slice:
		if x.Len() != y.Len() {
			return false
		}
		for i := range x.Len() {
			if !same(reflect.ValueOf(x.Index(i).Interface()), reflect.ValueOf(y.Index(i).Interface())) {
				return false
			}
		}
		return true
	case reflect.Struct:
		for i := range x.NumField() {
			if !same(x.Field(i), y.Field(i)) {
				return false
			}
		}
		return true
	}
	return reflect.DeepEqual(x.Interface(), y.Interface())
}

// wantAll fails if some kind of case was never met, so that a test does not pass for nothing.
func wantAll[K comparable](t *testing.T, met map[K]int, kinds ...K) {
	t.Helper()
	for _, kind := range kinds {
		if met[kind] < 5 {
			t.Errorf("only %d cases: %v", met[kind], kind)
		}
	}
}
