package share_test

import (
	"slices"
	"testing"

	"bathyal/api"
	"bathyal/share"
)

// P5.4
func TestOwed(t *testing.T) {
	const most, least = 1<<63 - 1, -1 << 63
	none := api.Span{}
	dead := with(func(s *api.ShareSeason) { s.Persons[1].Fate, s.Persons[2].Fate = api.ShareDies, api.ShareDies })
	for i, x := range []struct {
		season      api.ShareSeason
		person, may int
		want        api.Span
		e           api.Errno
	}{
		{seasonS(), 1, 4, sp(53, 60), api.OK}, {seasonS(), 2, 2, sp(16, 25), api.OK}, {seasonS(), 0, 6, sp(80, 150), api.OK}, {seasonS(), 0, 2, sp(80, 125), api.OK}, {seasonS(), 0, 4, sp(80, 90), api.OK},
		// nobody may desert
		{seasonS(), 0, 0, just(80), api.OK}, {seasonS(), 1, 0, just(53), api.OK}, {seasonS(), 2, 0, just(16), api.OK}, {seasonT(), 0, 0, just(90), api.OK}, {seasonT(), 1, 0, just(60), api.OK}, {idle(), 0, 6, just(0), api.OK}, {idle(), 1, 4, just(0), api.OK},
		// who dies has a share, too; and who has deserted stays away
		{seasonU(), 1, 4, sp(53, 60), api.OK}, {dead, 1, 0, just(53), api.OK}, {seasonT(), 0, 2, sp(90, 150), api.OK},
		{rich(), 0, 62, sp(422409, 600000), api.OK}, {rich(), 5, 30, sp(4545, 7142), api.OK},
		// sets that are none, or have others than those who stay
		{seasonS(), 1, 1, none, api.ErrArg}, {seasonS(), 1, 5, none, api.ErrArg}, {seasonS(), 1, 2, none, api.ErrArg}, {seasonS(), 1, 6, none, api.ErrArg}, {seasonS(), 0, 1, none, api.ErrArg}, {seasonS(), 0, 7, none, api.ErrArg}, {seasonS(), 0, 8, none, api.ErrArg}, {seasonS(), 1, 12, none, api.ErrArg}, {seasonS(), 1, -1, none, api.ErrArg}, {seasonS(), 1, -4, none, api.ErrArg}, {seasonS(), 1, most, none, api.ErrArg}, {seasonS(), 1, least, none, api.ErrArg}, {seasonS(), 1, least + 4, none, api.ErrArg}, {seasonS(), 1, 1<<32 + 4, none, api.ErrArg},
		{seasonT(), 1, 4, none, api.ErrArg}, {seasonT(), 0, 6, none, api.ErrArg}, {seasonU(), 2, 2, none, api.ErrArg}, {seasonU(), 0, 6, none, api.ErrArg}, {dead, 1, 4, none, api.ErrArg},
		// persons that are none, or desert
		{seasonT(), 2, 0, none, api.ErrArg}, {seasonT(), 2, 2, none, api.ErrArg}, {seasonS(), 3, 0, none, api.ErrArg}, {seasonS(), -1, 0, none, api.ErrArg}, {seasonS(), most, 0, none, api.ErrArg}, {seasonS(), least, 0, none, api.ErrArg}, {seasonS(), 1 << 32, 0, none, api.ErrArg}, {seasonS(), 64, 0, none, api.ErrArg},
	} {
		if got, e := share.Owed(x.season, x.person, x.may); e != x.e || got != x.want {
			t.Error(i, got, e)
		}
	}
	for i, s := range badSeasons() {
		if got, e := share.Owed(s, 0, 0); e != api.ErrArg || got != none {
			t.Error(i, s, got, e)
		}
	}
}

// P5.4: whoever of the set deserts, the share lies within the bounds, and each end is reached
func TestOwedOfAny(t *testing.T) {
	r := source(5)
	met := map[string]int{}
	for range 2500 {
		s := anySeason(r)
		person, ok := anySharer(r, s, 0)
		if !ok {
			continue
		}
		var may []int
		set := 0
		for other, p := range s.Persons {
			if other != 0 && other != person && p.Fate == api.ShareStays && r.Intn(4) > 0 {
				may = append(may, other)
				set += 1 << other
			}
		}
		var all []int
		for _, some := range subsets(len(may)) {
			x := copyOf(s)
			for _, i := range some {
				x.Persons[may[i]].Fate = api.ShareDeserts
			}
			ends, _, e := share.Settle(x)
			if e != api.OK || ends[person].Share != shareOf(x, person) {
				t.Fatal(x, person, ends, e)
			}
			all = append(all, ends[person].Share)
		}
		want := sp(slices.Min(all), slices.Max(all))
		if got, e := share.Owed(s, person, set); e != api.OK || got != want {
			t.Fatal(s, person, set, got, e, want)
		}
		switch {
		case want.Low < want.High && person == 0:
			met["open, house"]++
		case want.Low < want.High && s.Persons[person].Fate == api.ShareDies:
			met["open, dies"]++
		case want.Low < want.High:
			met["open"]++
		case len(may) > 0:
			met["certain"]++
		}
	}
	wantAll(t, met, "open", "open, house", "open, dies", "certain")
}

// twice returns the season s with its landings twice.
func twice() api.ShareSeason {
	return with(func(s *api.ShareSeason) { s.Landings = append(s.Landings, s.Landings...) })
}

// P5.5
func TestTrips(t *testing.T) {
	const most, least = 1<<63 - 1, -1 << 63
	for i, x := range []struct {
		season        api.ShareSeason
		person, share int
		want          []int
		e             api.Errno
	}{
		{seasonS(), 1, 53, l(0, 1), api.OK}, {seasonS(), 1, 33, l(0), api.OK}, {seasonS(), 1, 20, l(1), api.OK}, {seasonS(), 1, 0, nil, api.OK}, {seasonS(), 2, 8, l(1), api.OK}, {seasonS(), 2, 16, l(0), api.OK}, {seasonS(), 2, 25, l(0, 1), api.OK}, {seasonS(), 2, 17, nil, api.ErrNone}, {seasonS(), 2, 0, nil, api.OK},
		// with the parts of a landing in which the person is not yet
		{with(func(s *api.ShareSeason) { s.Landings[2] = api.ShareLanding{Gross: 90, Crew: 1} }), 1, 36, l(2), api.OK},
		{with(func(s *api.ShareSeason) { s.Landings[2] = api.ShareLanding{Gross: 90, Crew: 5} }), 1, 30, l(2), api.OK},
		{idle(), 1, 0, nil, api.OK}, {idle(), 1, 1, nil, api.ErrNone},
		// the first ones of several: the landing 2 has no net
		{twice(), 1, 33, l(0), api.OK}, {twice(), 1, 66, l(0, 3), api.OK}, {twice(), 1, 53, l(0, 1), api.OK}, {twice(), 1, 86, l(0, 1, 3), api.OK}, {twice(), 1, 40, l(1, 4), api.OK}, {twice(), 1, 106, l(0, 1, 3, 4), api.OK}, {twice(), 1, 107, nil, api.ErrNone},
		{with(func(s *api.ShareSeason) { s.Landings[0], s.Landings[2] = s.Landings[2], s.Landings[0] }), 1, 53, l(1, 2), api.OK},
		// fewer landings come before lists that are lexicographically before
		{with(func(s *api.ShareSeason) {
			s.Landings = []api.ShareLanding{{Gross: 5, Crew: 3}, {Gross: 5, Crew: 3}, {Gross: 10, Crew: 3}}
		}), 1, 4, l(2), api.OK},
		// who dies has a share, and of who deserts there are no parts
		{seasonU(), 1, 53, l(0, 1), api.OK}, {seasonT(), 1, 40, l(0), api.OK}, {seasonT(), 1, 60, l(0, 1), api.OK}, {seasonT(), 1, 33, nil, api.ErrNone},
		{seasonS(), 1, most, nil, api.ErrNone}, {seasonS(), 1, api.ShareCoins * 6, nil, api.ErrNone},
		{seasonT(), 2, 0, nil, api.ErrArg}, {seasonS(), 0, 80, nil, api.ErrArg}, {seasonS(), 0, 0, nil, api.ErrArg}, {seasonS(), 3, 0, nil, api.ErrArg}, {seasonS(), -1, 0, nil, api.ErrArg}, {seasonS(), most, 0, nil, api.ErrArg}, {seasonS(), least, 0, nil, api.ErrArg}, {seasonS(), 1<<32 + 1, 0, nil, api.ErrArg}, {seasonS(), 1, -1, nil, api.ErrArg}, {seasonS(), 1, least, nil, api.ErrArg}, {idle(), 1, -1, nil, api.ErrArg},
	} {
		if got, e := share.Trips(x.season, x.person, x.share); e != x.e || !equal(got, x.want) {
			t.Error(i, got, e)
		}
	}
	for i, s := range badSeasons() {
		if got, e := share.Trips(s, 1, 0); e != api.ErrArg || len(got) != 0 {
			t.Error(i, s, got, e)
		}
	}
}

// onTrips returns a season in which a person takes part in just some landings, by the definition.
func onTrips(s api.ShareSeason, person int, trips []int) api.ShareSeason {
	x := copyOf(s)
	for landing := range x.Landings {
		crew := &x.Landings[landing].Crew
		is, wanted := *crew/(1<<person)%2 == 1, slices.Contains(trips, landing)
		if is && !wanted {
			*crew -= 1 << person
		}
		if wanted && !is {
			*crew += 1 << person
		}
	}
	return x
}

// P5.5: the trips are the first of the fewest landings that give the share, of all that there are
func TestTripsOfAny(t *testing.T) {
	r := source(6)
	met := map[string]int{}
	for range 3000 {
		s := anySeason(r)
		person, ok := anySharer(r, s, 1)
		if !ok {
			continue
		}
		all := subsets(len(s.Landings))
		wanted := shareOf(onTrips(s, person, all[r.Intn(len(all))]), person) + r.Intn(2)*r.Intn(3)
		var want []int
		giving := 0
		for _, trips := range all {
			if shareOf(onTrips(s, person, trips), person) == wanted {
				if giving == 0 || len(trips) < len(want) {
					want = trips
				}
				giving++
			}
		}
		got, e := share.Trips(s, person, wanted)
		if giving == 0 && e != api.ErrNone || giving > 0 && e != api.OK || !equal(got, want) {
			t.Fatal(s, person, wanted, got, e, want)
		}
		switch {
		case giving == 0:
			met["none"]++
		case giving > 1 && len(want) > 1:
			met["several"]++
		case giving == 1:
			met["one"]++
		}
	}
	wantAll(t, met, "none", "several", "one")
}
