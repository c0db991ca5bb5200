package rescue_test

import (
	"slices"
	"testing"

	"bathyal/api"
	"bathyal/rescue"
)

// P9.1
func TestCheck(t *testing.T) {
	for i, s := range []api.RescueSea{seaS(), calm(1), calm(6), calm(2, leg(0, 1, 0)), calm(2, leg(1, 0, 60)), widest(), {Places: 1, Currents: 3}, {Places: 6, Currents: 3, Chamber: 5}, withSea(func(s *api.RescueSea) { s.Places = 6 }), withSea(func(s *api.RescueSea) { s.Legs = nil })} {
		if e := rescue.Check(s); e != api.OK {
			t.Error(i, e)
		}
	}
	for i, s := range badSeas() {
		if e := rescue.Check(s); e != api.ErrArg {
			t.Error(i, s, e)
		}
	}
}

// P9.1
func TestWay(t *testing.T) {
	one := withSea(func(s *api.RescueSea) { s.Legs = s.Legs[:1] })
	twice := withSea(func(s *api.RescueSea) { s.Legs = append(s.Legs, leg(0, 2, 9, 1), leg(0, 2, 7, 0), leg(0, 1, 3, 7)) })
	for i, x := range []struct {
		s                 api.RescueSea
		current, from, to int
		way               []int
		minutes           int
		e                 api.Errno
	}{
		{seaS(), 0, 0, 2, l(0, 1, 2), 7, api.OK}, {seaS(), 1, 3, 2, l(3, 0, 1, 2), 14, api.OK}, {seaS(), 0, 2, 0, l(2, 1, 0), 9, api.OK}, {seaS(), 1, 2, 0, l(2, 1, 0), 7, api.OK}, {seaS(), 0, 3, 2, l(3, 2), 4, api.OK}, {seaS(), 1, 0, 2, l(0, 1, 2), 9, api.OK},
		// a place alone, be there legs or not
		{seaS(), 0, 0, 0, l(0), 0, api.OK}, {seaS(), 1, 3, 3, l(3), 0, api.OK}, {calm(1), 0, 0, 0, l(0), 0, api.OK}, {calm(3), 0, 2, 2, l(2), 0, api.OK},
		// no way, or one that goes the other way alone
		{one, 0, 0, 1, l(0, 1), 4, api.OK}, {one, 1, 0, 1, l(0, 1), 6, api.OK}, {one, 0, 1, 0, nil, 0, api.ErrNone}, {one, 0, 0, 2, nil, 0, api.ErrNone}, {calm(2), 0, 0, 1, nil, 0, api.ErrNone}, {calm(2, leg(0, 1, 0)), 0, 0, 1, nil, 0, api.ErrNone}, {calm(4, leg(0, 1, 1), leg(1, 0, 1), leg(2, 3, 1)), 0, 0, 3, nil, 0, api.ErrNone},
		// several legs from a place to a place: the least minutes count, and 0 is none
		{twice, 0, 0, 2, l(0, 1, 2), 6, api.OK}, {twice, 1, 0, 2, l(0, 2), 1, api.OK}, {twice, 1, 0, 1, l(0, 2, 1), 4, api.OK}, {calm(2, leg(0, 1, 5), leg(0, 1, 0), leg(0, 1, 3), leg(0, 1, 4)), 0, 0, 1, l(0, 1), 3, api.OK},
		// of ways with as many minutes, the first one in order, be it longer or not
		{calm(4, leg(0, 2, 4), leg(2, 3, 4), leg(0, 1, 4), leg(1, 3, 4)), 0, 0, 3, l(0, 1, 3), 8, api.OK}, {calm(4, leg(0, 3, 8), leg(0, 2, 4), leg(2, 3, 4), leg(0, 1, 4), leg(1, 3, 4)), 0, 0, 3, l(0, 1, 3), 8, api.OK}, {calm(4, leg(0, 3, 8), leg(0, 1, 4), leg(1, 2, 2), leg(2, 3, 2)), 0, 0, 3, l(0, 1, 2, 3), 8, api.OK}, {calm(4, leg(0, 1, 8), leg(0, 2, 4), leg(2, 1, 4)), 0, 0, 1, l(0, 1), 8, api.OK}, {calm(4, leg(0, 3, 7), leg(0, 1, 4), leg(1, 3, 4)), 0, 0, 3, l(0, 3), 7, api.OK}, {calm(5, leg(3, 0, 1), leg(3, 1, 1), leg(0, 4, 5), leg(1, 4, 5)), 0, 3, 4, l(3, 0, 4), 6, api.OK},
		// the longest one
		{widest(), 0, 0, 5, l(0, 1, 2, 3, 4, 5), 300, api.OK}, {widest(), 0, 5, 0, l(5, 4, 3, 2, 1, 0), 300, api.OK}, {widest(), 1, 0, 5, l(0, 1, 2, 3, 4, 5), 5, api.OK}, {widest(), 1, 5, 0, nil, 0, api.ErrNone}, {widest(), 2, 1, 5, l(1, 0, 5), 120, api.OK}, {widest(), 2, 0, 2, l(0, 2), 59, api.OK}, {widest(), 2, 5, 0, l(5, 4, 3, 2, 1, 0), 300, api.OK},
	} {
		if w, n, e := rescue.Way(x.s, x.current, x.from, x.to); e != x.e || n != x.minutes || !slices.Equal(w, x.way) {
			t.Error(i, w, n, e)
		}
	}
}

// P9.1
func TestWayErrors(t *testing.T) {
	check := func(s api.RescueSea, current, from, to int) {
		t.Helper()
		if w, n, e := rescue.Way(s, current, from, to); e != api.ErrArg || n != 0 || len(w) != 0 {
			t.Error(s, current, from, to, w, n, e)
		}
	}
	for _, s := range badSeas() {
		check(s, 0, 0, 0)
		check(s, 0, 0, 1)
	}
	for _, n := range badNumbers(0, 1) {
		check(seaS(), n, 0, 1)
		check(seaS(), n, 2, 2)
	}
	for _, n := range badNumbers(0, 3) {
		check(seaS(), 0, n, 1)
		check(seaS(), 0, 1, n)
		check(seaS(), 0, n, n)
	}
}

// rowed returns the least minutes of the legs from a place to a place with a current, or 0 if there is none.
func rowed(s api.RescueSea, current, from, to int) int {
	fewest := 0
	for _, x := range s.Legs {
		if n := x.Minutes[current]; x.From == from && x.To == to && n != 0 && (fewest == 0 || n < fewest) {
			fewest = n
		}
	}
	return fewest
}

// minutes returns the minutes of places that are a way with a current, by the definition, or false if they are none.
func minutes(s api.RescueSea, current int, places []int) (int, bool) {
	sum := 0
	for i := 1; i < len(places); i++ {
		n := rowed(s, current, places[i-1], places[i])
		if n == 0 || slices.Contains(places[:i], places[i]) {
			return 0, false
		}
		sum += n
	}
	return sum, true
}

// eachPlaces calls a function with all lists of different places that begin with one, and end with one.
func eachPlaces(s api.RescueSea, from, to int, do func(places []int)) {
	for many := 1; many <= s.Places; many++ {
		each := slices.Repeat([]api.Span{sp(0, s.Places-1)}, many)
		each[0] = sp(from, from)
		each[many-1] = sp(max(to, each[many-1].Low), min(to, each[many-1].High))
		if each[many-1].Low <= each[many-1].High {
			lists(each, do)
		}
	}
}

// P9.1: by the definition of ways, there is one of these minutes, and no other one has fewer, or as many and comes before
func TestWaysOfAny(t *testing.T) {
	r := source(1)
	met := map[int]int{}
	for range 2500 {
		s := anySea(r, anyOf(r, 1, 8))
		current, from, to := r.Intn(s.Currents), r.Intn(s.Places), r.Intn(s.Places)
		w, n, e := rescue.Way(s, current, from, to)
		var found []int
		fewest := 0
		eachPlaces(s, from, to, func(places []int) {
			m, is := minutes(s, current, places)
			if !is {
				return
			}
			if found == nil || m < fewest || m == fewest && slices.Compare(places, found) < 0 {
				found, fewest = slices.Clone(places), m
			}
		})
		want := api.OK
		if found == nil {
			want = api.ErrNone
		}
		if e != want || n != fewest || !slices.Equal(w, found) {
			t.Fatal(s, current, from, to, w, n, e, found, fewest)
		}
		met[len(w)]++
	}
	wantAll(t, met, 0, 1, 2, 3, 4, 5)
}
