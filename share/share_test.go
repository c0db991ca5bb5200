package share_test

import (
	"testing"

	"bathyal/api"
	"bathyal/share"
)

// P5.1
func TestCheck(t *testing.T) {
	good := []api.ShareSeason{
		seasonS(), seasonT(), seasonU(), idle(), rich(),
		{Persons: []api.SharePerson{{Parts: 1, Fate: api.ShareStays}, {Parts: 23, Fate: api.ShareDies}}},
		{Persons: []api.SharePerson{{Parts: 23, Fate: api.ShareStays}, {Parts: 1, Debt: api.ShareCoins, Fate: api.ShareDeserts}}, Landings: make([]api.ShareLanding, 0, 1)},
		with(func(s *api.ShareSeason) { s.Persons[2].Parts = api.ShareParts - 5 }),
		with(func(s *api.ShareSeason) { s.Landings[0] = api.ShareLanding{Crew: 1} }),
		with(func(s *api.ShareSeason) {
			s.Landings[0] = api.ShareLanding{Gross: api.ShareCoins, Costs: api.ShareCoins, Crew: 7}
		}),
	}
	for i, s := range good {
		if e := share.Check(s); e != api.OK {
			t.Error(i, e)
		}
	}
	for i, s := range badSeasons() {
		if e := share.Check(s); e != api.ErrArg {
			t.Error(i, s, e)
		}
	}
}

// P5.1
func TestClaims(t *testing.T) {
	for i, x := range []struct {
		season api.ShareSeason
		want   []int
		common int
	}{
		{seasonS(), l(4800, 3200, 1000), 60}, {seasonT(), l(1350, 900, 0), 15}, {seasonU(), l(4800, 3200, 1000), 60}, {idle(), l(0, 0, 0), 1},
		// a landing that brings nothing has its parts in the common denominator
		{with(func(s *api.ShareSeason) { s.Landings = s.Landings[2:] }), l(0, 0, 0), 4},
		{with(func(s *api.ShareSeason) { s.Landings = s.Landings[:1] }), l(300, 200, 100), 6},
		// as much comes in as it costs
		{with(func(s *api.ShareSeason) { s.Landings[0].Costs = 130 }), l(1800, 1200, 0), 60},
		// the house alone is there, or alone stays
		{with(func(s *api.ShareSeason) { s.Landings = []api.ShareLanding{{Gross: 9, Costs: 2, Crew: 1}} }), l(21, 0, 0), 3},
		{with(func(s *api.ShareSeason) {
			s.Persons[1].Fate, s.Persons[2].Fate = api.ShareDeserts, api.ShareDeserts
		}), l(450, 0, 0), 3},
		{rich(), l(18847289500000, 456456000000, 456456000000, 1743474200000, 5064657000000, 202811700000), 44618574},
	} {
		if got, n, e := share.Claims(x.season); e != api.OK || n != x.common || !equal(got, x.want) {
			t.Error(i, got, n, e)
		}
	}
	for i, s := range badSeasons() {
		if got, n, e := share.Claims(s); e != api.ErrArg || n != 0 || len(got) != 0 {
			t.Error(i, s, got, n, e)
		}
	}
}

// P5.1: claims are as defined, for all seasons, and together they are the pool
func TestClaimsOfAny(t *testing.T) {
	r := source(1)
	for range 3000 {
		s := anySeason(r)
		claims, n, e := share.Claims(s)
		if e != api.OK || share.Check(s) != api.OK || !isLeast(s, n) || len(claims) != len(s.Persons) {
			t.Fatal(s, claims, n, e)
		}
		all := 0
		for person, claim := range claims {
			if claim != times(t, claimOf(s, person), n) {
				t.Fatal(s, person, claims, n)
			}
			all += claim
		}
		if all != poolOf(s)*n {
			t.Fatal(s, claims, n)
		}
	}
}

// P5.2
func TestSettle(t *testing.T) {
	type ends = []api.ShareEnd
	debt := func(debt int, fate api.ShareFate) api.ShareSeason {
		return with(func(s *api.ShareSeason) { s.Persons[1].Debt, s.Persons[1].Fate = debt, fate })
	}
	other := api.ShareEnd{Share: 16, Off: 10, Paid: 6}
	for i, x := range []struct {
		season api.ShareSeason
		want   ends
		box    int
	}{
		{seasonS(), ends{{Share: 80, Paid: 120}, {Share: 53, Off: 40, Paid: 13}, other}, 1},
		{seasonT(), ends{{Share: 90, Paid: 120}, {Share: 60, Off: 40, Paid: 20}, {Owed: 10}}, 0},
		{seasonU(), ends{{Share: 80, Paid: 106}, {Share: 53, Off: 26, Paid: 27, Struck: 14}, other}, 1},
		{idle(), ends{{}, {Owed: 40}, {Owed: 10}}, 0},
		// who stays has a debt as great as the share, a smaller or a greater one, or none
		{debt(0, api.ShareStays), ends{{Share: 80, Paid: 80}, {Share: 53, Paid: 53}, other}, 1},
		{debt(52, api.ShareStays), ends{{Share: 80, Paid: 132}, {Share: 53, Off: 52, Paid: 1}, other}, 1},
		{debt(53, api.ShareStays), ends{{Share: 80, Paid: 133}, {Share: 53, Off: 53}, other}, 1},
		{debt(54, api.ShareStays), ends{{Share: 80, Paid: 133}, {Share: 53, Off: 53, Owed: 1}, other}, 1},
		{debt(api.ShareCoins, api.ShareStays), ends{{Share: 80, Paid: 133}, {Share: 53, Off: 53, Owed: 99947}, other}, 1},
		// of who dies, half of the share is paid at least, as of 53 coins 27 are
		{debt(0, api.ShareDies), ends{{Share: 80, Paid: 80}, {Share: 53, Paid: 53}, other}, 1},
		{debt(25, api.ShareDies), ends{{Share: 80, Paid: 105}, {Share: 53, Off: 25, Paid: 28}, other}, 1},
		{debt(26, api.ShareDies), ends{{Share: 80, Paid: 106}, {Share: 53, Off: 26, Paid: 27}, other}, 1},
		{debt(27, api.ShareDies), ends{{Share: 80, Paid: 106}, {Share: 53, Off: 26, Paid: 27, Struck: 1}, other}, 1},
		{debt(api.ShareCoins, api.ShareDies), ends{{Share: 80, Paid: 106}, {Share: 53, Off: 26, Paid: 27, Struck: 99974}, other}, 1},
		{debt(0, api.ShareDeserts), ends{{Share: 125, Paid: 125}, {}, {Share: 25, Off: 10, Paid: 15}}, 0},
		// the house pays for what is missing, also more than it has
		{with(func(s *api.ShareSeason) { s.Landings = s.Landings[2:] }), ends{{Paid: -10}, {Owed: 40}, {Owed: 10}}, 0},
		{with(func(s *api.ShareSeason) { s.Landings[2].Costs = api.ShareCoins }), ends{{Share: 80, Paid: -99860}, {Share: 53, Off: 40, Paid: 13}, other}, 1},
		{with(func(s *api.ShareSeason) {
			s.Landings = s.Landings[1:]
			s.Landings[0], s.Landings[1] = api.ShareLanding{Costs: 7, Crew: 7}, api.ShareLanding{Gross: 1, Costs: 9, Crew: 1}
		}), ends{{Paid: -15}, {Owed: 40}, {Owed: 10}}, 0},
		// as many coins in the box as there can be
		{api.ShareSeason{Persons: []api.SharePerson{{Parts: 1, Fate: api.ShareStays}, {Parts: 1, Fate: api.ShareDies}, {Parts: 1, Fate: api.ShareStays}}, Landings: []api.ShareLanding{{Gross: 2, Crew: 7}}}, ends{{}, {}, {}}, 2},
		{rich(), ends{{Share: 422409, Paid: 586489}, {Share: 10230, Off: 10230, Owed: 89770}, {Share: 10230, Off: 10230, Owed: 89770}, {Share: 39075, Off: 39075, Owed: 60925}, {Share: 113510, Off: 100000, Paid: 13510}, {Share: 4545, Off: 4545, Owed: 95455}}, 1},
	} {
		if got, box, e := share.Settle(x.season); e != api.OK || box != x.box || !equal(got, x.want) {
			t.Error(i, got, box, e)
		}
	}
	for i, s := range badSeasons() {
		if got, box, e := share.Settle(s); e != api.ErrArg || box != 0 || len(got) != 0 {
			t.Error(i, s, got, box, e)
		}
	}
}

// endOf returns what a person other than the house has in the end, by the definition.
func endOf(s api.ShareSeason, person int) api.ShareEnd {
	p, has := s.Persons[person], shareOf(s, person)
	switch p.Fate {
	case api.ShareStays:
		if has < p.Debt {
			return api.ShareEnd{Share: has, Off: has, Owed: p.Debt - has}
		}
		return api.ShareEnd{Share: has, Off: p.Debt, Paid: has - p.Debt}
	case api.ShareDies:
		if has/2 < p.Debt {
			return api.ShareEnd{Share: has, Off: has / 2, Paid: (has + 1) / 2, Struck: p.Debt - has/2}
		}
		return api.ShareEnd{Share: has, Off: p.Debt, Paid: has - p.Debt}
	}
	return api.ShareEnd{Owed: p.Debt}
}

// P5.2, P0.5: settlements are as defined, for all seasons, and no coin is lost
func TestSettleOfAny(t *testing.T) {
	r := source(2)
	met := map[any]int{}
	for range 4000 {
		s := anySeason(r)
		got, box, e := share.Settle(s)
		if e != api.OK || len(got) != len(s.Persons) || box < 0 || box >= len(s.Persons) {
			t.Fatal(s, got, box, e)
		}
		sold, paid, off, missing := 0, box, 0, 0
		for person, x := range got {
			p := s.Persons[person]
			if person > 0 && x != endOf(s, person) || x.Off+x.Owed+x.Struck != p.Debt {
				t.Fatal(s, person, got)
			}
			met[p.Fate]++
			met[box > 2]++
			paid += x.Paid
			off += x.Off
		}
		for _, g := range s.Landings {
			sold += g.Gross - g.Costs
			_, deficit := netOf(g)
			missing += deficit
		}
		own := shareOf(s, 0)
		if got[0] != (api.ShareEnd{Share: own, Paid: own + off - missing}) || paid != sold {
			t.Fatal(s, got, box)
		}
		if got[0].Paid < 0 {
			met["less than 0"]++
		}
	}
	wantAll(t, met, any(api.ShareStays), any(api.ShareDeserts), any(api.ShareDies), any(true), any("less than 0"))
}

// P5.3, P0.5: in whatever order there are landings, the settlement is the same
func TestOrder(t *testing.T) {
	r := source(3)
	for range 1500 {
		s := anySeason(r)
		want, box, _ := share.Settle(s)
		r.Shuffle(len(s.Landings), func(i, k int) { s.Landings[i], s.Landings[k] = s.Landings[k], s.Landings[i] })
		if got, n, e := share.Settle(s); e != api.OK || n != box || !equal(got, want) {
			t.Fatal(s, got, n, e, want, box)
		}
	}
}

// P5.3: and so it is if a landing is divided
func TestDivided(t *testing.T) {
	r := source(4)
	met := map[string]int{}
	for range 6000 {
		s := anySeason(r)
		if len(s.Landings) == 0 || len(s.Landings) == api.ShareLandings {
			continue
		}
		landing := r.Intn(len(s.Landings))
		g := s.Landings[landing]
		if g.Gross < g.Costs {
			continue
		}
		want, box, _ := share.Settle(s)
		a := api.ShareLanding{Costs: r.Intn(g.Costs + 1), Crew: g.Crew}
		a.Gross = anyOf(r, a.Costs, g.Gross-g.Costs+a.Costs)
		b := api.ShareLanding{Gross: g.Gross - a.Gross, Costs: g.Costs - a.Costs, Crew: g.Crew}
		s.Landings[landing] = a
		s.Landings = append(s.Landings, b)
		if got, n, e := share.Settle(s); e != api.OK || n != box || !equal(got, want) {
			t.Fatal(s, got, n, e, want, box)
		}
		if a.Gross > a.Costs && b.Gross > b.Costs {
			met["both bring something"]++
		}
		if box > 0 {
			met["coins in the box"]++
		}
	}
	wantAll(t, met, "both bring something", "coins in the box")
}
