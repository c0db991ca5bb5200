package captain_test

import (
	"slices"
	"testing"

	"bathyal/api"
	"bathyal/captain"
)

// asksFor checks that questions have an error.
func asksFor(t *testing.T, c *captain.Captain, want api.Errno, q ...api.CaptainQuestion) {
	t.Helper()
	for _, x := range q {
		if n, e := c.Ask(x); e != want || len(n) != 0 {
			t.Error(x, n, e)
		}
	}
}

// P10.3
func TestAskErrors(t *testing.T) {
	c := played(t, suiteS(), cut(0, 4), sorted(1, 5, 25))
	for _, kind := range []api.CaptainAsk{least, -1, 0, 10, 11, most} {
		for many := range 5 {
			asksFor(t, c, api.ErrArg, ask(kind, slices.Repeat(l(0), many)...))
		}
	}
	for kind := api.CaptainMost; kind <= api.CaptainCould; kind++ {
		for many := range 6 {
			if many != counts()[kind-1] {
				asksFor(t, c, api.ErrArg, ask(kind, slices.Repeat(l(1), many)...))
			}
		}
	}
	for _, n := range l(least, -1, 1, 2, 1<<32, api.CaptainNumber, most) {
		asksFor(t, c, api.ErrArg, ask(api.CaptainMost, n))
	}
	for _, n := range l(least, -1, 2, 3, 1<<32, api.CaptainNumber, most) {
		asksFor(t, c, api.ErrArg, ask(api.CaptainStop, n), ask(api.CaptainHeld, n))
	}
	for _, n := range l(least, -1, 3, 4, 1<<32, api.CaptainNumber, most) {
		asksFor(t, c, api.ErrArg, ask(api.CaptainEnd, n))
	}
	for _, n := range l(least, -1, 0, 16, 17, 1<<32+1, most) {
		asksFor(t, c, api.ErrArg, ask(api.CaptainCould, n, 5, 25))
	}
	for _, n := range l(least, -1, 41, 1<<32, most) {
		asksFor(t, c, api.ErrArg, ask(api.CaptainCould, 1, n, 25), ask(api.CaptainCould, 1, 5, n))
	}
}

// P10.3, P10.4: the most that can be cut, also if there is no room for an act
func TestMost(t *testing.T) {
	answers(t, opened(t, suiteS()), ask(api.CaptainMost, 0), 10)
	answers(t, played(t, suiteS(), cut(0, 1)), ask(api.CaptainMost, 0), 0)
	c := played(t, fleet(3, 2), cut(1, 10))
	answers(t, c, ask(api.CaptainMost, 0), 10)
	answers(t, c, ask(api.CaptainMost, 1), 0)
	answers(t, c, ask(api.CaptainMost, 2), 10)
	c = played(t, fleet(3, 2), cut(1, 10), cut(2, 1))
	for bed := range 3 {
		answers(t, c, ask(api.CaptainMost, bed), 0)
	}
	poor := withSuite(func(s *api.CaptainSuite) { s.Ground.Beds[0].Full = 21 })
	answers(t, opened(t, poor), ask(api.CaptainMost, 0), 0)
	// a captain with whom as many acts were done as there can be, none of them a cut
	done := append(slices.Repeat(acts(land(1, 0, 0)), 6), slices.Repeat(acts(dive(0, 0, 0, 0, 0), dive(1, 0, 0, 0, 0), dive(2, 0, 0, 0, 0), dive(3, 0, 0, 0, 0)), 4)...)
	c = played(t, crowd(4, 6), append(done, fate(1, 2), fate(2, 2))...)
	refuses(t, c, api.ErrLong, cut(0, 1))
	answers(t, c, ask(api.CaptainMost, 0), 10)
}

// P10.3, P10.4: what a man holds, and his stop
func TestHeldAndStop(t *testing.T) {
	c := opened(t, suiteS())
	for man := range 2 {
		answers(t, c, ask(api.CaptainHeld, man), 1000, 1000, 1000, 1000)
		answers(t, c, ask(api.CaptainStop, man), 0, 0)
	}
	c = played(t, suiteS(), dive(0, 10, 10, 3, 3))
	answers(t, c, ask(api.CaptainHeld, 0), 1487, 1487, 1105, 1130)
	answers(t, c, ask(api.CaptainHeld, 1), 1000, 1000, 1000, 1000)
	answers(t, c, ask(api.CaptainStop, 0), 0, 0)
	c = played(t, suiteS(), dive(0, 10, 10, 3, 3), dive(0, 0, 0, 11, 11))
	answers(t, c, ask(api.CaptainHeld, 0), 1150, 1150, 1081, 1094)
	// as many stages as a dive may have, in one dive or in some
	c = played(t, suiteS(), dive(0, 0, 0, 0, 0, 0, 0, 0, 0), dive(1, 0, 0, 0, 0), dive(0, 0, 0, 0, 0))
	answers(t, c, ask(api.CaptainStop, 0), 0, 0)
	c = played(t, suiteS(), dive(0, 0, 0, 0, 0, 0, 0, 0, 0), dive(1, 0, 0, 0, 0), dive(0, 0, 0, 0, 0), dive(0, 0, 0, 0, 0))
	asksFor(t, c, api.ErrRule, ask(api.CaptainStop, 0))
	answers(t, c, ask(api.CaptainStop, 1), 0, 0)
	answers(t, c, ask(api.CaptainHeld, 0), 1000, 1000, 1000, 1000)
	// a table that nobody keeps, at any stop
	harsh := withSuite(func(s *api.CaptainSuite) { s.Table.Parts[0] = api.GasPart{} })
	asksFor(t, opened(t, harsh), api.ErrNone, ask(api.CaptainStop, 0), ask(api.CaptainStop, 1))
}

// P10.3, P10.5: what persons have in the end, and what is in the box
func TestEndAndBox(t *testing.T) {
	c := played(t, suiteS(), dive(0, 0, 0, 0, 0), dive(1, 0, 0, 0, 0), land(130, 30, 0, 1, 2), land(50, 0, 0, 1), land(10, 20, 0, 2))
	answers(t, c, ask(api.CaptainEnd, 0), 80, 0, 110, 0, 0)
	answers(t, c, ask(api.CaptainEnd, 1), 53, 40, 13, 0, 0)
	answers(t, c, ask(api.CaptainEnd, 2), 16, 0, 16, 0, 0)
	answers(t, c, ask(api.CaptainBox), 1)
	// the house pays for what is missing; who dies has half; who deserts has nothing
	c = played(t, suiteS(), land(5, 25, 0))
	answers(t, c, ask(api.CaptainEnd, 0), 0, 0, -20, 0, 0)
	c = played(t, suiteS(), dive(0, 0, 0, 0, 0), land(50, 0, 0, 1), fate(1, 3))
	answers(t, c, ask(api.CaptainEnd, 1), 20, 10, 10, 0, 30)
	answers(t, c, ask(api.CaptainEnd, 0), 30, 0, 40, 0, 0)
	c = played(t, suiteS(), dive(0, 0, 0, 0, 0), land(50, 0, 0, 1), fate(1, 2))
	answers(t, c, ask(api.CaptainEnd, 1), 0, 0, 0, 40, 0)
	answers(t, c, ask(api.CaptainEnd, 0), 50, 0, 50, 0, 0)
}

// P10.3, P10.6: bales
func TestStockSureBest(t *testing.T) {
	// the store s of chapter 8, with its sale a
	done := acts(cut(0, 10), sorted(1, 5, 25), sorted(1, 15, 30), sorted(1, 5, 25), sorted(1, 15, 30), sorted(1, 5, 25))
	c := played(t, suiteS(), done...)
	answers(t, c, ask(api.CaptainStock), 3, 2)
	answers(t, c, ask(api.CaptainSure), 0, 0)
	answers(t, c, ask(api.CaptainBest), 3, 0, 0, 2, 300, 354)
	c = played(t, suiteS(), append(done, sell(1, 0, 3), sell(1, 1, 1))...)
	answers(t, c, ask(api.CaptainStock), 0, 1)
	answers(t, c, ask(api.CaptainSure), 240, 420)
	answers(t, c, ask(api.CaptainBest), 0, 1, 0, 0, 26, 44)
	// a mart that takes no more
	c = played(t, suiteS(), append(done, sell(0, 0, 2), sell(0, 1, 1))...)
	answers(t, c, ask(api.CaptainStock), 1, 1)
	answers(t, c, ask(api.CaptainSure), 186, 240)
	answers(t, c, ask(api.CaptainBest), 0, 0, 1, 1, 100, 160)
	// a bale that costs more than it brings
	dear := withSuite(func(s *api.CaptainSuite) { s.Marts[0].Freight, s.Marts[1].Takes = 1000, 0 })
	c = played(t, dear, append(done, sell(0, 1, 1))...)
	answers(t, c, ask(api.CaptainSure), -964, -946)
	answers(t, c, ask(api.CaptainBest), 0, 0, 0, 0, 0, 0)
}

// P10.3
func TestCould(t *testing.T) {
	c := played(t, suiteS(), cut(0, 4), sorted(1, 5, 25))
	answers(t, c, ask(api.CaptainCould, 1, 9, 21), 0, 1)
	answers(t, c, ask(api.CaptainCould, 1, 5, 25), 0)
	answers(t, c, ask(api.CaptainCould, 1, 0, 0), -1)
	answers(t, c, ask(api.CaptainCould, 15, 0, 5), -1, 2)
	answers(t, c, ask(api.CaptainCould, 15, 40, 40), 2)
}

// P10.3, R8: whatever is asked, it is answered as the definition says, and nothing changes
func TestAskOfAny(t *testing.T) {
	r := source(3)
	met := map[[2]int]int{}
	for range 700 {
		m, done := anySeason(r, 40)
		c := played(t, m.s, done...)
		for range 40 {
			q := anyAsk(r, m)
			want, f := m.ask(q)
			for range 2 {
				if n, e := c.Ask(q); e != f || !slices.Equal(n, want) {
					t.Fatal(m.s, m.lines, q, n, e, want, f)
				}
			}
			met[[2]int{int(q.Kind), int(f)}]++
		}
		if j := journalOf(t, c); j != m.journal() {
			t.Fatal(j, m.lines)
		}
	}
	for kind := api.CaptainMost; kind <= api.CaptainCould; kind++ {
		wantAll(t, met, [2]int{int(kind), int(api.OK)}, [2]int{int(kind), int(api.ErrArg)})
	}
	wantAll(t, met, [2]int{int(api.CaptainStop), int(api.ErrRule)}, [2]int{int(api.CaptainStop), int(api.ErrNone)})
}
