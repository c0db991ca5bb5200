package captain_test

import (
	"slices"
	"testing"

	"bathyal/api"
	"bathyal/captain"
)

// P10.2: acts that are not formed come first, then acts for which there is no room
func TestActForms(t *testing.T) {
	c := played(t, suiteS(), cut(0, 10), dive(0, 0, 0, 0, 0), sorted(1, 5, 25))
	for _, kind := range []api.CaptainKind{least, -1, 0, 7, 8, most} {
		for many := range 8 {
			refuses(t, c, api.ErrArg, act(kind, slices.Repeat(l(0), many)...))
		}
	}
	numbers := [][]int{nil, l(2), l(5, 9), l(3, 4, 5, 6, 7, 8, 9), l(3), l(3), l(2)}
	for kind := api.CaptainCut; kind <= api.CaptainFate; kind++ {
		for many := range 10 {
			a := act(kind, slices.Repeat(l(api.CaptainNumber+1), many)...)
			refuses(t, c, api.ErrArg, a)
			a = act(kind, slices.Repeat(l(1), many)...)
			if _, e := captain.Write(a); (e == api.OK) != slices.Contains(numbers[kind], many) {
				t.Error(a, e)
			}
			if !slices.Contains(numbers[kind], many) {
				refuses(t, c, api.ErrArg, a)
			}
		}
	}
	for _, n := range l(-1, api.CaptainNumber+1, least, most) {
		refuses(t, c, api.ErrArg, cut(0, n), cut(n, 4), dive(n, 0, 0, 0, 0), dive(0, n, 0, 0, 0), dive(0, 0, 0, 0, n), land(n, 0, 0), land(0, n, 0), land(0, 0, n), land(0, 0, 0, n), sorted(n, 5, 25), sorted(1, n, 25), sorted(1, 5, n), sell(n, 0, 1), sell(0, n, 1), sell(0, 0, n), fate(n, 2), fate(1, n))
	}
	full := filled(t)
	refuses(t, full, api.ErrLong, sorted(1, 15, 30), cut(0, 4), cut(9, 9), dive(9, 0, 0, 0, 0), land(0, 0, 9), sorted(0, 99, 99), sell(9, 9, 0), fate(0, 0), fate(1, 2))
	refuses(t, full, api.ErrArg, act(0), cut(0), cut(0, -1), dive(0), dive(0, 0, 0, 0), land(0, 0), sorted(0, 0), sell(0, 0, api.CaptainNumber+1), fate(1))
}

// filled returns a captain with whom as many acts were done as there can be.
func filled(t *testing.T) *captain.Captain {
	t.Helper()
	done := acts(cut(0, 10))
	done = append(done, slices.Repeat(acts(land(1, 0, 0)), api.ShareLandings)...)
	done = append(done, slices.Repeat(acts(dive(0, 0, 0, 0, 0)), api.GasStages)...)
	done = append(done, slices.Repeat(acts(dive(1, 0, 0, 0, 0)), api.GasStages)...)
	done = append(done, slices.Repeat(acts(sorted(1, 5, 30)), 5)...)
	done = append(done, slices.Repeat(acts(sorted(1, 15, 30)), 4)...)
	if len(done) != api.CaptainActs {
		t.Fatal(len(done))
	}
	return played(t, suiteS(), done...)
}

// P10.2, P10.4
func TestCut(t *testing.T) {
	c := opened(t, suiteS())
	refuses(t, c, api.ErrRule, cut(0, 0), cut(0, 11), cut(0, 20), cut(0, api.CaptainNumber))
	refuses(t, c, api.ErrArg, cut(1, 4), cut(1, 0), cut(4, 4), cut(64, 4), cut(api.CaptainNumber, 4))
	for _, pieces := range l(1, 4, 10) {
		c = played(t, suiteS(), cut(0, pieces))
		if j := journalOf(t, c); j != written(cut(0, pieces))+"\n" {
			t.Errorf("%q", j)
		}
		refuses(t, c, api.ErrRule, cut(0, pieces), cut(0, 1), cut(0, 0))
		refuses(t, c, api.ErrArg, cut(1, 1))
	}
	// fewer boats than beds, as many, and more; a bed is cut once
	c = played(t, fleet(3, 1), cut(2, 10))
	refuses(t, c, api.ErrRule, cut(0, 1), cut(1, 10), cut(2, 1))
	c = played(t, fleet(3, 2), cut(1, 1))
	refuses(t, c, api.ErrRule, cut(1, 1), cut(0, 11))
	c = played(t, fleet(3, 2), cut(1, 1), cut(0, 10))
	refuses(t, c, api.ErrRule, cut(0, 1), cut(1, 1), cut(2, 1))
	refuses(t, c, api.ErrArg, cut(3, 1))
	c = played(t, fleet(3, 4), cut(1, 1), cut(0, 10), cut(2, 9))
	refuses(t, c, api.ErrRule, cut(0, 1), cut(1, 1), cut(2, 1))
	// a bed of which no cut is lawful
	poor := withSuite(func(s *api.CaptainSuite) { s.Ground.Beds[0].Full = 21 })
	refuses(t, opened(t, poor), api.ErrRule, cut(0, 0), cut(0, 1), cut(0, 10))
}

// P10.2, P10.4
func TestDive(t *testing.T) {
	c := opened(t, suiteS())
	refuses(t, c, api.ErrRule, dive(0, 9, 10, 3, 4), dive(0, 10, 10, 4, 4), dive(0, 10, 10, 3, 3, 0, 0, 10, 10, 10, 10, 3, 3), dive(1, 40, 40, 120, 120))
	refuses(t, c, api.ErrArg, dive(2, 0, 0, 0, 0), dive(3, 0, 0, 0, 0), dive(api.CaptainNumber, 0, 0, 0, 0))
	// stages that are not as defined, and more than a dive may have, also if one of them does not keep the limits
	for _, n := range [][]int{l(5, 4, 1, 1), l(1, 1, 5, 4), l(41, 41, 1, 1), l(1, 41, 1, 1), l(1, 1, 121, 121), l(1, 1, 1, 121), l(1, 8, 1, 1), l(1, 1, 1, 8), l(40, 41, 120, 120), l(api.CaptainNumber, api.CaptainNumber, 1, 1)} {
		refuses(t, c, api.ErrArg, dive(append(l(0), n...)...), dive(append(l(1, 0, 0, 0, 0), n...)...), dive(append(l(0, 40, 40, 120, 120), n...)...))
	}
	refuses(t, c, api.ErrArg, dive(append(l(0), slices.Repeat(l(0), 20)...)...), dive(append(l(0), slices.Repeat(l(40), 20)...)...), dive(append(l(0), slices.Repeat(l(0), 400)...)...))
	played(t, suiteS(), dive(0, 0, 6, 0, 0), dive(1, 0, 0, 114, 120), dive(0, 0, 6, 0, 2))
	// a second dive is one with the first
	c = played(t, suiteS(), dive(0, 10, 10, 3, 3))
	refuses(t, c, api.ErrRule, dive(0, 10, 10, 3, 3), dive(0, 0, 0, 10, 10, 10, 10, 3, 3))
	c = played(t, suiteS(), dive(0, 10, 10, 3, 3), dive(1, 9, 10, 3, 4), dive(0, 0, 0, 11, 11), dive(0, 10, 10, 3, 3))
	refuses(t, c, api.ErrRule, dive(0, 10, 10, 3, 3))
	refuses(t, c, api.ErrArg, dive(0, 0, 0, 0, 0, 0, 0, 0, 0), dive(0, 10, 10, 3, 3, 10, 10, 3, 3))
	c = played(t, suiteS(), dive(0, 10, 10, 3, 3, 0, 0, 11, 11, 10, 10, 3, 3, 0, 0, 0, 0))
	refuses(t, c, api.ErrArg, dive(0, 0, 0, 0, 0), dive(0, 40, 40, 120, 120))
	if e := c.Act(dive(1, 9, 10, 3, 4)); e != api.OK {
		t.Error(e)
	}
}

// P10.2, P10.5
func TestLand(t *testing.T) {
	c := opened(t, suiteS())
	refuses(t, c, api.ErrRule, land(10, 0, 0, 1), land(10, 0, 0, 2), land(10, 0, 0, 1, 2), land(0, 0, 0, 1))
	refuses(t, c, api.ErrArg, land(10, 0, 1), land(10, 0, 2), land(10, 0, 1, 2), land(10, 0, 0, 0), land(10, 0, 0, 1, 1), land(10, 0, 0, 2, 1), land(10, 0, 1, 0), land(10, 0, 0, 3), land(10, 0, 3), land(10, 0, 0, 1, 2, 3), land(10, 0, 0, 64), land(10, 0, 0, 1<<17), land(10, 0, 0, api.CaptainNumber), land(api.ShareCoins+1, 0, 0), land(0, api.ShareCoins+1, 0), land(api.CaptainNumber, api.CaptainNumber, 0), land(append(l(1, 1), slices.Repeat(l(0), 1000)...)...))
	// what is not as defined comes before who did not dive
	refuses(t, c, api.ErrArg, land(api.ShareCoins+1, 0, 0, 1), land(0, api.ShareCoins+1, 0, 2), land(1, 1, 0, 1, 3))
	c = played(t, suiteS(), land(api.ShareCoins, 0, 0), land(0, api.ShareCoins, 0), dive(0, 0, 0, 0, 0), land(10, 0, 0, 1))
	refuses(t, c, api.ErrRule, land(10, 0, 0, 2), land(10, 0, 0, 1, 2))
	// who has a fate takes part no longer; what others do is as before
	c = played(t, suiteS(), dive(0, 0, 0, 0, 0), dive(1, 0, 0, 0, 0), land(10, 0, 0, 1, 2), fate(1, 2))
	refuses(t, c, api.ErrRule, land(10, 0, 0, 1), land(10, 0, 0, 1, 2))
	c = played(t, suiteS(), dive(0, 0, 0, 0, 0), dive(1, 0, 0, 0, 0), fate(2, 3), land(10, 0, 0, 1))
	refuses(t, c, api.ErrRule, land(10, 0, 0, 2), land(10, 0, 0, 1, 2))
	refuses(t, c, api.ErrArg, land(10, 0, 0, 2, 1), land(10, 0, 2))
	// as many as a season may have
	c = played(t, suiteS(), slices.Repeat(acts(land(1, 0, 0)), api.ShareLandings)...)
	refuses(t, c, api.ErrArg, land(1, 0, 0), land(1, 0, 0, 1))
	// persons who are no divers need not dive
	c = played(t, crowd(2, 6), land(10, 0, 0, 3, 4, 5), land(10, 0, 0, 5))
	refuses(t, c, api.ErrRule, land(10, 0, 0, 2, 3), land(10, 0, 0, 1, 5), land(10, 0, 0, 1, 2))
	refuses(t, c, api.ErrArg, land(10, 0, 0, 6), land(10, 0, 3, 4))
	c = played(t, crowd(2, 6), dive(1, 0, 0, 0, 0), land(10, 0, 0, 2, 3))
	refuses(t, c, api.ErrRule, land(10, 0, 0, 1, 2, 3))
}

// P10.2, P10.6
func TestSort(t *testing.T) {
	c := opened(t, suiteS())
	refuses(t, c, api.ErrRule, sorted(1, 5, 25))
	refuses(t, c, api.ErrArg, sorted(0, 5, 25), sorted(16, 5, 25), sorted(1, 41, 25), sorted(1, 5, 41), sorted(api.CaptainNumber, 5, 25), sorted(1, api.CaptainNumber, 25), sorted(0, 41, 41))
	c = played(t, suiteS(), cut(0, 2))
	// more than one grade, one that the marts have not, and refuse
	refuses(t, c, api.ErrRule, sorted(1, 9, 21), sorted(1, 5, 21), sorted(4, 5, 30), sorted(5, 5, 30), sorted(1, 0, 0), sorted(15, 30, 30))
	for _, n := range [][]int{l(1, 5, 25), l(2, 8, 23), l(3, 0, 40)} {
		answers(t, played(t, suiteS(), cut(0, 2), sorted(n...)), ask(api.CaptainStock), 1, 0)
	}
	for _, n := range [][]int{l(1, 13, 30), l(3, 18, 13), l(2, 15, 40)} {
		answers(t, played(t, suiteS(), cut(0, 2), sorted(n...)), ask(api.CaptainStock), 0, 1)
	}
	// as many as were cut, of all beds
	c = played(t, suiteS(), cut(0, 2), sorted(1, 5, 25), sorted(1, 15, 30))
	refuses(t, c, api.ErrRule, sorted(1, 5, 25), sorted(1, 15, 30), sorted(4, 5, 30))
	refuses(t, c, api.ErrArg, sorted(0, 5, 25), sorted(1, 5, 41))
	c = played(t, fleet(2, 2), cut(0, 1), sorted(1, 5, 25), cut(1, 2), sorted(1, 5, 25), sorted(1, 5, 25))
	refuses(t, c, api.ErrRule, sorted(1, 5, 25))
	// six bales of a grade, be they sold or not
	six := append(acts(cut(0, 10)), slices.Repeat(acts(sorted(1, 5, 25)), api.MarketBales)...)
	c = played(t, suiteS(), append(six, sell(0, 0, 2))...)
	refuses(t, c, api.ErrRule, sorted(1, 5, 25))
	if e := c.Act(sorted(1, 15, 30)); e != api.OK {
		t.Error(e)
	}
	// marts with one grade
	c = played(t, goodSuites()[12], cut(0, 2), sorted(1, 5, 25))
	refuses(t, c, api.ErrRule, sorted(1, 15, 30))
	refuses(t, c, api.ErrArg, sell(0, 1, 1), sell(1, 0, 1))
}

// P10.2, P10.6
func TestSell(t *testing.T) {
	c := played(t, suiteS(), cut(0, 10))
	refuses(t, c, api.ErrRule, sell(0, 0, 1), sell(1, 1, 1))
	refuses(t, c, api.ErrArg, sell(0, 0, 0), sell(2, 0, 1), sell(0, 2, 1), sell(api.CaptainNumber, 0, 1), sell(0, api.CaptainNumber, 1), sell(2, 2, 0), sell(64, 64, 64))
	many := append(acts(cut(0, 10)), slices.Repeat(acts(sorted(1, 5, 25)), 4)...)
	many = append(many, sorted(1, 15, 30), sorted(1, 15, 30))
	// no more than were sorted, in one mart or in both
	c = played(t, suiteS(), many...)
	refuses(t, c, api.ErrRule, sell(1, 0, 5), sell(0, 1, 3), sell(1, 1, 3), sell(1, 0, api.CaptainNumber))
	c = played(t, suiteS(), append(many, sell(1, 0, 2), sell(0, 0, 1))...)
	refuses(t, c, api.ErrRule, sell(0, 0, 2), sell(1, 0, 2))
	refuses(t, c, api.ErrArg, sell(0, 0, 0))
	played(t, suiteS(), append(many, sell(1, 0, 2), sell(0, 0, 1), sell(0, 0, 1), sell(0, 1, 1), sell(1, 1, 1))...)
	// no more than a mart takes, of one grade or of both
	c = played(t, suiteS(), many...)
	refuses(t, c, api.ErrRule, sell(0, 0, 4))
	c = played(t, suiteS(), append(many, sell(0, 0, 2))...)
	refuses(t, c, api.ErrRule, sell(0, 0, 2), sell(0, 1, 2))
	c = played(t, suiteS(), append(many, sell(0, 0, 2), sell(0, 1, 1))...)
	refuses(t, c, api.ErrRule, sell(0, 0, 1), sell(0, 1, 1))
	played(t, suiteS(), append(many, sell(0, 0, 2), sell(0, 1, 1), sell(1, 0, 2), sell(1, 1, 1))...)
}

// P10.2, P10.5
func TestFate(t *testing.T) {
	c := opened(t, suiteS())
	refuses(t, c, api.ErrArg, fate(0, 2), fate(0, 3), fate(3, 2), fate(api.CaptainNumber, 2), fate(1, 0), fate(1, 1), fate(1, 4), fate(2, api.CaptainNumber), fate(0, 1))
	for _, one := range l(2, 3) {
		for _, other := range l(2, 3) {
			c = played(t, suiteS(), fate(1, one))
			refuses(t, c, api.ErrRule, fate(1, other))
			refuses(t, c, api.ErrArg, fate(1, 1), fate(1, 4), fate(0, other))
			played(t, suiteS(), fate(1, one), fate(2, other))
			played(t, suiteS(), fate(2, one), fate(1, other))
		}
	}
}

// P10.2: whatever is tried, it is done just if the definition allows it; with an error, nothing changes
func TestActOfAny(t *testing.T) {
	r := source(2)
	met := map[[2]int]int{}
	for range 1200 {
		m := newModel(anySuite(r))
		c := opened(t, m.s)
		for range 60 {
			a := anyAct(r, m)
			want := m.act(a)
			if e := c.Act(a); e != want {
				t.Fatal(m.s, m.lines, a, e, want)
			}
			met[[2]int{int(a.Kind), int(want)}]++
		}
		if j := journalOf(t, c); j != m.journal() {
			t.Fatalf("%q %q", j, m.journal())
		}
		for _, q := range asks() {
			n, e := c.Ask(q)
			if want, f := m.ask(q); e != f || !slices.Equal(n, want) {
				t.Fatal(m.s, m.lines, q, n, e, want, f)
			}
		}
	}
	for kind := api.CaptainCut; kind <= api.CaptainFate; kind++ {
		for _, e := range []api.Errno{api.OK, api.ErrArg, api.ErrLong, api.ErrRule} {
			wantAll(t, met, [2]int{int(kind), int(e)})
		}
	}
}
