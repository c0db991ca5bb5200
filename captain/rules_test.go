package captain_test

import (
	"math/rand"
	"reflect"
	"slices"
	"strings"
	"testing"

	"bathyal/api"
	"bathyal/captain"
)

// wild returns a number, or one that is out of all ranges.
func wild(r *rand.Rand, n int) int {
	all := l(least, least+1, -256, -2, -1, 0, 1, 3, 4, 6, 7, 15, 16, 40, 41, 63, 64, 65, 100, 121, 200, 1001, 4001, 100001, api.CaptainNumber, api.CaptainNumber+1, 1<<31, 1<<32+1, most-1, most)
	if r.Intn(150) > 0 {
		return n
	}
	return all[r.Intn(len(all))]
}

// wildSpan returns a span, be it as defined or not.
func wildSpan(r *rand.Rand, s api.Span) api.Span { return sp(wild(r, s.Low), wild(r, s.High)) }

// wildList returns a longer list, or a shorter one, of which things can be changed.
func wildList[T any](r *rand.Rand, list []T, change func(*rand.Rand, T) T) []T {
	var all []T
	for _, x := range list {
		all = append(all, change(r, x))
	}
	switch r.Intn(150) {
	case 0:
		return slices.Repeat(all, anyOf(r, 2, 70))
	case 1:
		return all[:len(all)/2]
	case 2:
		return nil
	}
	return all
}

// wildSuite returns a suite, be it as defined or not.
func wildSuite(r *rand.Rand, s api.CaptainSuite) api.CaptainSuite {
	bed := func(r *rand.Rand, b api.BedsBed) api.BedsBed {
		return api.BedsBed{Start: wildList(r, b.Start, wildSpan), Low: wild(r, b.Low), High: wild(r, b.High), Full: wild(r, b.Full), Leave: wild(r, b.Leave), Within: wild(r, b.Within)}
	}
	part := func(r *rand.Rand, p api.GasPart) api.GasPart {
		return api.GasPart{Limit: wild(r, p.Limit), Slope: wild(r, p.Slope)}
	}
	man := func(r *rand.Rand, m api.GasMan) api.GasMan {
		return api.GasMan{Rates: wildList(r, m.Rates, wildSpan)}
	}
	one := func(r *rand.Rand, p api.SharePerson) api.SharePerson {
		return api.SharePerson{Parts: wild(r, p.Parts), Debt: wild(r, p.Debt), Fate: api.ShareFate(wild(r, int(p.Fate)))}
	}
	sponge := func(r *rand.Rand, g api.LoftGrade) api.LoftGrade {
		return grade(wild(r, g.Forms), wildSpan(r, g.Pore), wildSpan(r, g.Size), wild(r, g.Price))
	}
	market := func(r *rand.Rand, m api.MarketMart) api.MarketMart {
		return mart(wild(r, m.Rate), wild(r, m.Freight), wild(r, m.Takes), wildList(r, m.Prices, wildSpan)...)
	}
	return api.CaptainSuite{
		Ground:  api.BedsGround{Beds: wildList(r, s.Ground.Beds, bed), Boats: wild(r, s.Ground.Boats), Years: wild(r, s.Ground.Years)},
		Table:   api.GasTable{Parts: wildList(r, s.Table.Parts, part), Stops: wildList(r, s.Table.Stops, wild)},
		Men:     wildList(r, s.Men, man),
		Persons: wildList(r, s.Persons, one),
		Rule:    api.LoftRule{Grades: wildList(r, s.Rule.Grades, sponge), Pore: wild(r, s.Rule.Pore), Size: wild(r, s.Rule.Size), Kerf: wild(r, s.Rule.Kerf)},
		Marts:   wildList(r, s.Marts, market),
	}
}

// given is arguments of all functions.
type given struct {
	suite   api.CaptainSuite
	acts    []api.CaptainAct
	asks    []api.CaptainQuestion
	journal string
	script  string
}

// called is what all functions return; captains are told by what they answer.
type called struct {
	open, replay, console api.Errno
	acts                  []api.Errno
	all                   []any
}

// calls returns the results of all functions, of which those with an error are nothing else.
func calls(t *testing.T, g given) called {
	t.Helper()
	var x called
	add := func(e api.Errno, isZero bool, r ...any) {
		t.Helper()
		if e != api.OK && !isZero {
			t.Fatal(g, r, e)
		}
		x.all = append(x.all, e, r)
	}
	c, e := captain.Open(g.suite)
	x.open = e
	add(e, c == nil, captain.Check(g.suite))
	for _, a := range g.acts {
		x.acts = append(x.acts, c.Act(a))
		line, e := captain.Write(a)
		add(e, line == "", line)
	}
	for _, q := range g.asks {
		n, e := c.Ask(q)
		add(e, len(n) == 0, saying(n, e))
	}
	j, e := c.Journal()
	add(e, j == "", j)
	b, at, e := captain.Replay(g.suite, g.journal)
	x.replay = e
	add(e, b == nil && at >= 0, at)
	if e == api.OK {
		add(e, false, answersOf(t, b))
	}
	for line := range strings.SplitSeq(g.script, "\n") {
		a, e := captain.Parse(line)
		add(e, a.Kind == 0 && len(a.Numbers) == 0, a)
	}
	said, e := captain.Console(g.suite, g.script)
	x.console = e
	add(e, said == "", said)
	return x
}

// wildText returns a text of which bytes can be changed.
func wildText(r *rand.Rand, text string) string {
	return string(wildList(r, []byte(text), func(r *rand.Rand, b byte) byte {
		if r.Intn(500) == 0 {
			return byte(r.Intn(256))
		}
		return b
	}))
}

// anything returns arguments, be they as defined or not.
func anything(r *rand.Rand) given {
	m, done := anySeason(r, 25)
	g := given{journal: wildText(r, m.journal()), suite: wildSuite(r, m.s)}
	var script strings.Builder
	for range 12 {
		a, q := anyAct(r, m), anyAsk(r, m)
		script.WriteString(anyLine(r, m) + "\n")
		g.acts = append(g.acts, act(api.CaptainKind(wild(r, int(a.Kind))), wildList(r, a.Numbers, wild)...))
		g.asks = append(g.asks, ask(api.CaptainAsk(wild(r, int(q.Kind))), wildList(r, q.Numbers, wild)...))
	}
	g.acts = append(done, g.acts...)
	g.script = wildText(r, m.journal()+script.String())
	return g
}

// P0.1, R2, R8: for all arguments, the functions end and do not panic, say the same again, and nothing but an error where there is one
func TestAnyValue(t *testing.T) {
	r := source(19)
	met := map[any]int{}
	for range 2500 {
		g := anything(r)
		a := calls(t, g)
		if b := calls(t, g); !reflect.DeepEqual(a, b) {
			t.Fatal(g, a, b)
		}
		met[a.open]++
		met[[2]any{"replay", a.replay}]++
		met[[2]any{"console", a.console}]++
		for _, e := range a.acts {
			met[[2]any{"act", e}]++
		}
	}
	wantAll(t, met, any(api.OK), any(api.ErrArg))
	for _, e := range []api.Errno{api.OK, api.ErrArg, api.ErrText, api.ErrRule} {
		wantAll(t, met, any([2]any{"replay", e}))
	}
	for _, e := range []api.Errno{api.OK, api.ErrArg, api.ErrText, api.ErrLong} {
		wantAll(t, met, any([2]any{"console", e}))
	}
	for _, e := range []api.Errno{api.OK, api.ErrNil, api.ErrArg, api.ErrRule} {
		wantAll(t, met, any([2]any{"act", e}))
	}
}

// P0.1: nothing but wild numbers, alone and together with suites that are as defined
func TestWildest(t *testing.T) {
	for _, n := range l(least, least+1, -1, 0, 1, 2, 3, 4, 6, 7, 24, 40, 41, 63, 64, 120, 121, 100001, api.CaptainNumber, api.CaptainNumber+1, 1<<31, 1<<32, most-1, most) {
		for many := range 8 {
			some := slices.Repeat(l(n), many)
			s := api.CaptainSuite{
				Ground:  api.BedsGround{Beds: slices.Repeat([]api.BedsBed{{Start: slices.Repeat(spans(just(n)), many), Low: n, High: n, Full: n, Leave: n, Within: n}}, many), Boats: n, Years: n},
				Table:   api.GasTable{Parts: slices.Repeat([]api.GasPart{{Limit: n, Slope: n}}, many), Stops: some},
				Men:     slices.Repeat([]api.GasMan{{Rates: slices.Repeat(spans(just(n)), many)}}, many),
				Persons: slices.Repeat([]api.SharePerson{{Parts: n, Debt: n, Fate: api.ShareFate(n)}}, many),
				Rule:    api.LoftRule{Grades: slices.Repeat([]api.LoftGrade{grade(n, just(n), just(n), n)}, many), Pore: n, Size: n, Kerf: n},
				Marts:   slices.Repeat([]api.MarketMart{mart(n, n, n, slices.Repeat(spans(just(n)), many)...)}, many),
			}
			g := given{suite: s, journal: strings.Repeat("\x00\n ", many), script: strings.Repeat("box\n\xff", many)}
			for kind := range 12 {
				g.acts = append(g.acts, act(api.CaptainKind(kind), some...), act(api.CaptainKind(n), some...))
				g.asks = append(g.asks, ask(api.CaptainAsk(kind), some...), ask(api.CaptainAsk(n), some...))
			}
			calls(t, g)
			for _, x := range []api.CaptainSuite{suiteS(), widest(), narrowest()} {
				g.suite = x
				calls(t, g)
			}
		}
	}
}

// P0.1: the suites at the ends of what there can be are worked with
func TestEnds(t *testing.T) {
	r := source(20)
	for _, s := range goodSuites() {
		for range 20 {
			m := newModel(s)
			c := opened(t, s)
			for range 40 {
				a, q := anyAct(r, m), anyAsk(r, m)
				if e, want := c.Act(a), m.act(a); e != want {
					t.Fatal(s, m.lines, a, e, want)
				}
				n, e := c.Ask(q)
				if want, f := m.ask(q); e != f || !slices.Equal(n, want) {
					t.Fatal(s, m.lines, q, n, e, want, f)
				}
			}
		}
	}
}

// R3: nil and empty lists are the same
func TestNilAndEmpty(t *testing.T) {
	a, b := given{suite: suiteS()}, given{suite: suiteS()}
	a.suite.Table.Stops, b.suite.Table.Stops = nil, l()
	a.acts, b.acts = acts(cut(0, 4), api.CaptainAct{Kind: api.CaptainCut}), acts(cut(0, 4), api.CaptainAct{Kind: api.CaptainCut, Numbers: l()})
	a.asks, b.asks = []api.CaptainQuestion{{Kind: api.CaptainBox}, {Kind: api.CaptainMost}}, []api.CaptainQuestion{{Kind: api.CaptainBox, Numbers: l()}, {Kind: api.CaptainMost, Numbers: l()}}
	if v, w := calls(t, a), calls(t, b); !reflect.DeepEqual(v, w) || v.open != api.OK {
		t.Error(v, w)
	}
	for _, change := range []func(*api.CaptainSuite, bool){
		func(s *api.CaptainSuite, empty bool) { s.Ground.Beds = none[api.BedsBed](empty) },
		func(s *api.CaptainSuite, empty bool) { s.Ground.Beds[0].Start = none[api.Span](empty) },
		func(s *api.CaptainSuite, empty bool) { s.Table.Parts = none[api.GasPart](empty) },
		func(s *api.CaptainSuite, empty bool) { s.Men = none[api.GasMan](empty) },
		func(s *api.CaptainSuite, empty bool) { s.Men[0].Rates = none[api.Span](empty) },
		func(s *api.CaptainSuite, empty bool) { s.Persons = none[api.SharePerson](empty) },
		func(s *api.CaptainSuite, empty bool) { s.Rule.Grades = none[api.LoftGrade](empty) },
		func(s *api.CaptainSuite, empty bool) { s.Marts = none[api.MarketMart](empty) },
		func(s *api.CaptainSuite, empty bool) { s.Marts[0].Prices = none[api.Span](empty) },
	} {
		a, b := suiteS(), suiteS()
		change(&a, false)
		change(&b, true)
		if captain.Check(a) != api.ErrArg || captain.Check(b) != api.ErrArg {
			t.Error(a)
		}
	}
}

// none returns a list without things, which is nil or empty.
func none[T any](empty bool) []T {
	if empty {
		return []T{}
	}
	return nil
}

// fill returns a list that has room for more, which is filled with copies of the first thing.
func fill[T any](list []T) []T {
	all := slices.Concat(list, slices.Repeat(list[:1], 4))
	return all[:len(list)]
}

// behind returns a list that has room for more with what is there.
func behind[T any](list []T) []T { return list[:len(list)+4] }

// roomySuite returns the suite s, of which all lists have room for more.
func roomySuite() api.CaptainSuite {
	s := suiteS()
	for i := range s.Ground.Beds {
		s.Ground.Beds[i].Start = fill(s.Ground.Beds[i].Start)
	}
	for i := range s.Men {
		s.Men[i].Rates = fill(s.Men[i].Rates)
	}
	for i := range s.Marts {
		s.Marts[i].Prices = fill(s.Marts[i].Prices)
	}
	s.Ground.Beds, s.Table.Parts, s.Table.Stops = fill(s.Ground.Beds), fill(s.Table.Parts), fill(s.Table.Stops)
	s.Men, s.Persons, s.Rule.Grades, s.Marts = fill(s.Men), fill(s.Persons), fill(s.Rule.Grades), fill(s.Marts)
	return s
}

// roomOf returns all lists of a suite with what is behind their ends.
func roomOf(s api.CaptainSuite) []any {
	all := []any{behind(s.Ground.Beds), behind(s.Table.Parts), behind(s.Table.Stops), behind(s.Men), behind(s.Persons), behind(s.Rule.Grades), behind(s.Marts)}
	for _, x := range s.Ground.Beds {
		all = append(all, behind(x.Start))
	}
	for _, x := range s.Men {
		all = append(all, behind(x.Rates))
	}
	for _, x := range s.Marts {
		all = append(all, behind(x.Prices))
	}
	return all
}

// spoil changes all that a suite has.
func spoil(s api.CaptainSuite) {
	for i := range s.Ground.Beds {
		clear(s.Ground.Beds[i].Start)
	}
	for i := range s.Men {
		clear(s.Men[i].Rates)
	}
	for i := range s.Marts {
		clear(s.Marts[i].Prices)
	}
	clear(s.Ground.Beds)
	clear(s.Table.Parts)
	clear(s.Table.Stops)
	clear(s.Men)
	clear(s.Persons)
	clear(s.Rule.Grades)
	clear(s.Marts)
}

// doneS returns acts of all kinds that can be done with the suite s.
func doneS() []api.CaptainAct {
	return acts(cut(0, 4), dive(0, 10, 10, 3, 3), dive(1, 9, 10, 3, 4), land(130, 30, 0, 1, 2), fate(2, 2), sorted(1, 5, 25), sorted(1, 15, 30), sell(0, 0, 1))
}

// R4: no argument is changed, also beyond the end of a list
func TestArguments(t *testing.T) {
	s := roomySuite()
	c := opened(t, s)
	for _, a := range doneS() {
		a.Numbers = fill(a.Numbers)
		before := slices.Clone(behind(a.Numbers))
		if e := c.Act(a); e != api.OK {
			t.Fatal(a, e)
		}
		if _, e := captain.Write(a); e != api.OK || !slices.Equal(behind(a.Numbers), before) {
			t.Error(a, e)
		}
	}
	for _, q := range asks() {
		if len(q.Numbers) == 0 {
			q.Numbers = make([]int, 0, 4)
		} else {
			q.Numbers = fill(q.Numbers)
		}
		before := slices.Clone(behind(q.Numbers))
		if c.Ask(q); !slices.Equal(behind(q.Numbers), before) {
			t.Error(q, before)
		}
	}
	j := journalOf(t, c)
	if _, _, e := captain.Replay(s, j); e != api.OK {
		t.Error(e)
	}
	if _, e := captain.Console(s, j+"best\nsure\nstock\nbox\nend 0\nheld 0\nstop 0\nmost 0\n"); e != api.OK {
		t.Error(e)
	}
	if !equal(roomOf(s), roomOf(roomySuite())) || !equal(s, suiteS()) {
		t.Error(s)
	}
}

// P10.11: a Captain keeps nothing of what it is given
func TestKeepsNothing(t *testing.T) {
	want := answersOf(t, played(t, suiteS(), doneS()...))
	for at := range len(doneS()) + 1 {
		s := suiteS()
		c := opened(t, s)
		for i, a := range doneS() {
			if i == at {
				spoil(s)
			}
			if e := c.Act(a); e != api.OK {
				t.Fatal(i, at, e)
			}
			clear(a.Numbers)
		}
		spoil(s)
		if got := answersOf(t, c); !slices.Equal(got, want) {
			t.Error(at, got, want)
		}
	}
	s := suiteS()
	c, _, e := captain.Replay(s, want[0])
	spoil(s)
	if e != api.OK || !slices.Equal(answersOf(t, c), want) {
		t.Error(e)
	}
}

// P10.11: a Captain gives nothing that it keeps, and results share no memory
func TestGivesNothing(t *testing.T) {
	c := played(t, suiteS(), doneS()...)
	want := answersOf(t, c)
	for _, q := range asks() {
		a, _ := c.Ask(q)
		b, _ := c.Ask(q)
		was := slices.Clone(b)
		for i := range a {
			a[i] += 1000
		}
		if a = append(a, 77); !slices.Equal(b, was) {
			t.Error(q, b, was)
		}
	}
	a, _ := captain.Parse("cut 0 4")
	b, _ := captain.Parse("cut 0 4")
	a.Numbers[0] = 9
	if !equal(b, cut(0, 4)) || !slices.Equal(answersOf(t, c), want) {
		t.Error(b, answersOf(t, c))
	}
}

// P10.11: captains of one suite share nothing, nor do those of one journal
func TestCaptainsApart(t *testing.T) {
	s := suiteS()
	a, b := played(t, s, doneS()...), played(t, s, doneS()...)
	want := answersOf(t, b)
	x, _, _ := captain.Replay(s, want[0])
	y, _, _ := captain.Replay(s, want[0])
	for _, c := range []*captain.Captain{a, x} {
		for _, more := range acts(sell(1, 1, 1), dive(0, 0, 0, 11, 11), fate(1, 3), land(7, 7, 0)) {
			if e := c.Act(more); e != api.OK {
				t.Error(more, e)
			}
		}
	}
	if !slices.Equal(answersOf(t, b), want) || !slices.Equal(answersOf(t, y), want) || slices.Equal(answersOf(t, a), want) {
		t.Error(answersOf(t, b), want)
	}
	// also those that are copied from each other
	one, other := *b, *b
	d, e := one.Act(sell(1, 1, 1)), other.Act(fate(1, 3))
	if j, k := journalOf(t, &one), journalOf(t, &other); j != want[0]+"sell 1 1 1\n" || k != want[0]+"fate 1 3\n" || !slices.Equal(answersOf(t, b), want) {
		t.Error(d, e, j, k)
	}
}
