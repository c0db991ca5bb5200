package rescue_test

import (
	"math/rand"
	"slices"
	"testing"

	"bathyal/api"
	"bathyal/rescue"
)

// P9.2
func TestFleet(t *testing.T) {
	ashore := boat(9, 60)
	ashore.Standby = false
	for i, f := range []api.RescueFleet{fleetF(), fleet(calm(1), boats(boat(1, 0)), divers(diver(0, 0))), fleet(widest(), boats(ashore, boat(9, 60), boat(1, 60)), slices.Repeat(divers(diver(5, api.RescueLimit)), api.RescueDivers))} {
		if e := rescue.Fleet(f); e != api.OK {
			t.Error(i, e)
		}
	}
	for i, f := range badFleets() {
		if e := rescue.Fleet(f); e != api.ErrArg {
			t.Error(i, f, e)
		}
	}
}

// both returns the chapter's fleet with the limits of both divers, and within how many minutes everybody must be in the chamber.
func both(limit, other, within int) api.RescueFleet {
	return withFleet(func(f *api.RescueFleet) {
		f.Divers[0].Limit, f.Divers[1].Limit, f.Sea.Within = limit, other, within
	})
}

// P9.2
func TestWorstAndDanger(t *testing.T) {
	idle := func(boat int) api.RescueFleet {
		return withFleet(func(f *api.RescueFleet) { f.Boats[boat].Standby = false })
	}
	// with the current 0 the boat 0 rescues alone, and with the current 1 the boat 1
	split := fleet(api.RescueSea{Places: 3, Currents: 2, Within: 9, Chamber: 2, Legs: legs(leg(0, 2, 1, 0), leg(1, 2, 0, 1))}, boats(boat(1, 0), boat(1, 0)), divers(diver(2, 9)))
	// there is no way to the chamber with the current 1
	lost := withFleet(func(f *api.RescueFleet) { f.Sea.Legs[1].Minutes[1], f.Sea.Legs[5].Minutes[1] = 0, 0 })
	near := fleet(calm(2), boats(boat(1, 5), boat(1, 7)), divers(diver(0, 7)))
	for i, x := range []struct {
		f      api.RescueFleet
		post   []int
		worst  []int
		danger api.RescueDanger
		e      api.Errno
	}{
		{fleetF(), l(0, 1, -1), l(10, 7), danger(0, 0, 0), api.ErrNone}, {fleetF(), l(0, 1, 2), l(5, 3), danger(0, 0, 0), api.ErrNone}, {fleetF(), l(0, 0, -1), l(11, 8), danger(0, 0, 1), api.OK}, {fleetF(), l(0, -1, -1), l(-1, -1), danger(0, 0, 0), api.OK}, {fleetF(), l(-1, -1, -1), l(-1, -1), danger(0, -1, 0), api.OK},
		// the last minute counts, of the way to the diver
		{both(10, 7, 20), l(0, 1, -1), l(10, 7), danger(0, 0, 0), api.ErrNone}, {both(9, 7, 20), l(0, 1, -1), l(10, 7), danger(0, 1, 1), api.OK}, {both(10, 6, 20), l(0, 1, -1), l(10, 7), danger(1, 1, 1), api.OK}, {both(9, 6, 20), l(0, 1, -1), l(10, 7), danger(0, 1, 1), api.OK}, {both(0, 0, 20), l(0, 1, -1), l(10, 7), danger(0, -1, 0), api.OK}, {both(5, 8, 20), l(0, 1, 2), l(5, 3), danger(0, 0, 0), api.ErrNone}, {both(4, 8, 20), l(0, 1, 2), l(5, 3), danger(0, 2, 0), api.OK},
		// and of that to the chamber: 8 and 9 minutes with the current 0, 10 and 7 with the current 1
		{both(10, 8, 17), l(0, 1, -1), l(10, 7), danger(0, 0, 0), api.ErrNone}, {both(10, 8, 16), l(0, 1, -1), l(10, 7), danger(0, 1, 0), api.OK}, {both(10, 8, 13), l(0, 1, -1), l(10, 7), danger(0, -1, 0), api.OK},
		// nobody who stands by, and a boat ashore, can fail as well
		{idle(1), l(0, 1, -1), l(-1, -1), danger(0, 0, 0), api.OK}, {idle(0), l(0, 1, -1), l(-1, -1), danger(0, 1, 0), api.OK}, {idle(2), l(0, 1, 2), l(10, 7), danger(0, 0, 0), api.ErrNone}, {idle(1), l(0, 1, 2), l(10, 7), danger(0, 0, 0), api.ErrNone}, {fleetF(), l(-1, 1, -1), l(-1, -1), danger(0, 1, 0), api.OK}, {fleetF(), l(-1, -1, 1), l(-1, -1), danger(0, 2, 0), api.OK}, {fleetF(), l(-1, 1, 1), l(5, 2), danger(0, 0, 0), api.ErrNone},
		// what fails comes before the current
		{split, l(0, 1), l(-1), danger(0, 0, 0), api.OK}, {split, l(1, 0), l(-1), danger(0, 0, 1), api.OK}, {split, l(2, 0), l(-1), danger(0, 0, 1), api.OK}, {split, l(2, 1), l(-1), danger(0, 0, 0), api.OK}, {split, l(2, 2), l(0), danger(0, 0, 0), api.ErrNone}, {split, l(0, 2), l(-1), danger(0, 1, 1), api.OK}, {split, l(1, 2), l(-1), danger(0, 1, 0), api.OK},
		// who cannot be brought to the chamber is not rescued, be the diver reached or not
		{lost, l(0, 1, 2), l(-1, -1), danger(0, -1, 1), api.OK}, {lost, l(2, 2, 2), l(-1, -1), danger(0, -1, 1), api.OK},
		// a boat at the place of the diver, which is that of the chamber, takes the minutes until it is ready
		{near, l(0, 0), l(7), danger(0, 0, 0), api.ErrNone}, {near, l(0, 1), l(-1), danger(0, 0, 0), api.OK}, {near, l(1, 0), l(-1), danger(0, 1, 0), api.OK}, {near, l(1, 1), l(-1), danger(0, -1, 0), api.OK},
		// one boat alone can fail
		{fleet(calm(1), boats(boat(1, 0)), divers(diver(0, 240))), l(0), l(-1), danger(0, 0, 0), api.OK}, {fleet(calm(1), boats(boat(1, 0)), divers(diver(0, 240))), l(-1), l(-1), danger(0, -1, 0), api.OK},
	} {
		if w, e := rescue.Worst(x.f, x.post); e != api.OK || !slices.Equal(w, x.worst) {
			t.Error(i, w, e)
		}
		if d, e := rescue.Danger(x.f, x.post); e != x.e || d != x.danger {
			t.Error(i, d, e)
		}
	}
}

// P9.3
func TestPost(t *testing.T) {
	alike := func(places int, b ...api.RescueBoat) api.RescueFleet {
		return fleet(calm(places, leg(0, 1, 5), leg(1, 0, 5)), b, divers(diver(0, 9)))
	}
	for i, x := range []struct {
		f    api.RescueFleet
		post []int
		men  int
		e    api.Errno
	}{
		{fleetF(), l(0, 1, -1), 5, api.OK}, {withFleet(func(f *api.RescueFleet) { f.Boats[1].Standby = false }), l(0, -1, 0), 7, api.OK}, {withFleet(func(f *api.RescueFleet) { f.Boats[0].Standby = false }), l(-1, 1, 0), 6, api.OK}, {withFleet(func(f *api.RescueFleet) { f.Sea.Within = 8 }), nil, 0, api.ErrNone}, {withFleet(func(f *api.RescueFleet) { f.Boats = f.Boats[:1] }), nil, 0, api.ErrNone}, {withFleet(func(f *api.RescueFleet) { f.Boats = f.Boats[:2] }), l(0, 1), 5, api.OK}, {withFleet(func(f *api.RescueFleet) { f.Boats[0].Men = 9 }), l(-1, 1, 0), 6, api.OK},
		// of posts with as many men the first one, and a boat ashore comes before all places
		{alike(2, boat(1, 0), boat(1, 0), boat(1, 0)), l(-1, 0, 0), 2, api.OK}, {alike(2, boat(2, 0), boat(1, 0), boat(1, 0)), l(-1, 0, 0), 2, api.OK}, {alike(2, boat(1, 0), boat(2, 0), boat(1, 0)), l(0, -1, 0), 2, api.OK}, {alike(2, boat(1, 0), boat(1, 0), boat(2, 0)), l(0, 0, -1), 2, api.OK}, {alike(2, boat(9, 0), boat(9, 5)), l(0, 0), 18, api.OK}, {alike(2, boat(9, 0), boat(9, 10)), nil, 0, api.ErrNone}, {alike(2, boat(9, 60), boat(9, 0), boat(9, 4)), l(-1, 0, 0), 18, api.OK},
		// three boats, as no two of them are enough for both divers
		{fleet(calm(2, leg(0, 1, 9), leg(1, 0, 1)), boats(boat(1, 0), boat(1, 0), boat(1, 0)), divers(diver(0, 1), diver(1, 1))), l(-1, 1, 1), 2, api.OK}, {fleet(calm(2, leg(0, 1, 9), leg(1, 0, 2)), boats(boat(1, 0), boat(1, 0), boat(1, 0)), divers(diver(0, 1), diver(1, 1))), nil, 0, api.ErrNone}, {fleet(calm(3, leg(0, 1, 1), leg(1, 0, 1), leg(1, 2, 1), leg(2, 1, 1), leg(2, 0, 1), leg(0, 2, 1)), boats(boat(3, 1), boat(3, 0), boat(3, 0)), divers(diver(0, 1), diver(1, 1), diver(2, 1))), l(-1, 0, 0), 6, api.OK}, {fleet(calm(4, leg(0, 1, 1), leg(0, 2, 1), leg(1, 0, 1), leg(1, 3, 1), leg(3, 1, 1), leg(3, 2, 1), leg(2, 3, 1), leg(2, 0, 1)), boats(boat(1, 0), boat(2, 0), boat(3, 0)), divers(diver(0, 1), diver(3, 1))), l(1, 1, -1), 3, api.OK}, {fleet(calm(4, leg(0, 1, 1), leg(1, 2, 1), leg(2, 0, 1)), boats(boat(1, 0), boat(2, 0), boat(3, 0)), divers(diver(0, 1), diver(1, 1), diver(2, 1))), l(0, 1, 2), 6, api.OK},
	} {
		if p, n, e := rescue.Post(x.f); e != x.e || n != x.men || !slices.Equal(p, x.post) {
			t.Error(i, p, n, e)
		}
	}
}

// P9.2, P9.3
func TestPostErrors(t *testing.T) {
	check := func(f api.RescueFleet, post []int) {
		t.Helper()
		if w, e := rescue.Worst(f, post); e != api.ErrArg || len(w) != 0 {
			t.Error(f, post, w, e)
		}
		if d, e := rescue.Danger(f, post); e != api.ErrArg || d != (api.RescueDanger{}) {
			t.Error(f, post, d, e)
		}
	}
	for _, f := range badFleets() {
		check(f, nil)
		check(f, l(0, 1, -1))
		check(f, slices.Repeat(l(-1), len(f.Boats)))
		if p, n, e := rescue.Post(f); e != api.ErrArg || n != 0 || len(p) != 0 {
			t.Error(f, p, n, e)
		}
	}
	for _, post := range badPosts() {
		check(fleetF(), post)
	}
}

// ways is the minutes of the best ways of a sea, or -1 if there is none, by current, by place and by place.
type ways [api.RescueCurrents][api.RescuePlaces][api.RescuePlaces]int

// waysOf returns the minutes of the best ways of a sea.
func waysOf(s api.RescueSea) ways {
	var w ways
	for current := range s.Currents {
		for from := range s.Places {
			for to := range s.Places {
				w[current][from][to] = -1
				if _, n, e := rescue.Way(s, current, from, to); e == api.OK {
					w[current][from][to] = n
				}
			}
		}
	}
	return w
}

// reached returns after how many minutes a boat reaches a diver, and brings the diver, by the definition, or false if it does not rescue the diver.
func reached(f api.RescueFleet, w ways, post []int, boat, diver, current int) (reaches, brings int, is bool) {
	if post[boat] == -1 || !f.Boats[boat].Standby {
		return 0, 0, false
	}
	place := f.Divers[diver].Place
	there, back := w[current][post[boat]][place], w[current][place][f.Sea.Chamber]
	reaches = f.Boats[boat].Ready + there
	return reaches, reaches + back, there != -1 && back != -1
}

// dangersOf returns all dangers of a post in their order, and the worst minutes of each diver, by the definition.
func dangersOf(f api.RescueFleet, w ways, post []int) (dangers []api.RescueDanger, worst []int) {
	for diver, d := range f.Divers {
		slowest := 0
		for fails := -1; fails < len(f.Boats); fails++ {
			for current := range f.Sea.Currents {
				inTime, first := false, -1
				for boat := range f.Boats {
					reaches, brings, is := reached(f, w, post, boat, diver, current)
					if !is || boat == fails {
						continue
					}
					if first == -1 || reaches < first {
						first = reaches
					}
					inTime = inTime || reaches <= d.Limit && brings <= f.Sea.Within
				}
				if !inTime {
					dangers = append(dangers, danger(diver, fails, current))
				}
				if first == -1 || slowest == -1 {
					slowest = -1
				} else {
					slowest = max(slowest, first)
				}
			}
		}
		worst = append(worst, slowest)
	}
	return dangers, worst
}

// P9.2: by the definition, with all boats that can fail, and all currents
func TestDangersOfAny(t *testing.T) {
	r := source(2)
	met := map[any]int{}
	for range 8000 {
		f := anyFleet(r)
		post := anyPost(r, f)
		dangers, slowest := dangersOf(f, waysOf(f.Sea), post)
		if w, e := rescue.Worst(f, post); e != api.OK || !slices.Equal(w, slowest) {
			t.Fatal(f, post, w, e, slowest)
		}
		d, e := rescue.Danger(f, post)
		if len(dangers) == 0 && (e != api.ErrNone || d != api.RescueDanger{}) || len(dangers) > 0 && (e != api.OK || d != dangers[0]) {
			t.Fatal(f, post, d, e, dangers)
		}
		met[e]++
		met[danger(0, d.Fails, d.Current)]++
		met[danger(d.Diver, 0, 0)]++
		met[slices.Contains(slowest, -1)]++
	}
	wantAll(t, met, any(api.OK), any(api.ErrNone), any(true), any(false))
	for fails := -1; fails < api.RescueBoats; fails++ {
		for current := range api.RescueCurrents {
			wantAll(t, met, any(danger(0, fails, current)))
		}
	}
	for diver := range api.RescueDivers {
		wantAll(t, met, any(danger(diver, 0, 0)))
	}
}

// menOf returns the men of a post.
func menOf(f api.RescueFleet, post []int) int {
	sum := 0
	for i, b := range f.Boats {
		if post[i] != -1 {
			sum += b.Men
		}
	}
	return sum
}

// eachPost calls a function with all posts of a fleet, in lexicographic order.
func eachPost(f api.RescueFleet, do func(post []int)) {
	lists(slices.Repeat([]api.Span{sp(-1, f.Sea.Places-1)}, len(f.Boats)), do)
}

// P9.3, P0.9: of all posts, no safe one has fewer men, or as many and comes before
func TestPostOfAny(t *testing.T) {
	r := source(3)
	met := map[any]int{}
	for range 700 {
		f := anyFleet(r)
		if r.Intn(6) == 0 {
			f = anyRing(r)
		}
		w := waysOf(f.Sea)
		var found []int
		eachPost(f, func(post []int) {
			if found != nil && menOf(f, post) >= menOf(f, found) {
				return
			}
			if dangers, _ := dangersOf(f, w, post); len(dangers) == 0 {
				found = slices.Clone(post)
			}
		})
		p, n, e := rescue.Post(f)
		if found == nil && (e != api.ErrNone || n != 0 || len(p) != 0) || found != nil && (e != api.OK || !slices.Equal(p, found) || n != menOf(f, found)) {
			t.Fatal(f, p, n, e, found)
		}
		if e == api.OK {
			if _, e := rescue.Danger(f, p); e != api.ErrNone {
				t.Fatal(f, p, e)
			}
		}
		met[e]++
		met[e == api.OK && !slices.Contains(p, -1) && len(p) == api.RescueBoats]++
	}
	wantAll(t, met, any(api.OK), any(api.ErrNone), any(true))
}

// eased returns a fleet with something that makes nothing worse: a limit that is longer, or a boat that is ready sooner.
func eased(r *rand.Rand, f api.RescueFleet) api.RescueFleet {
	f = copied(f)
	switch r.Intn(3) {
	case 0:
		d := &f.Divers[r.Intn(len(f.Divers))]
		d.Limit = anyOf(r, d.Limit, api.RescueLimit)
	case 1:
		b := &f.Boats[r.Intn(len(f.Boats))]
		b.Ready = anyOf(r, 0, b.Ready)
	case 2:
		f.Sea.Within = anyOf(r, f.Sea.Within, api.RescueLimit)
	}
	return f
}

// P9.9: longer limits, boats that are ready sooner, and a boat more at a place
func TestEased(t *testing.T) {
	r := source(4)
	met := map[bool]int{}
	for range 6000 {
		f := anyFleet(r)
		post := anyPost(r, f)
		if _, e := rescue.Danger(f, post); e != api.ErrNone {
			met[false]++
			continue
		}
		met[true]++
		if g := eased(r, f); rescue.Fleet(g) == api.OK {
			if d, e := rescue.Danger(g, post); e != api.ErrNone {
				t.Fatal(f, g, post, d, e)
			}
		}
		more := slices.Clone(post)
		if i := r.Intn(len(post)); post[i] == -1 {
			more[i] = r.Intn(f.Sea.Places)
		} else if g := copied(f); len(post) < api.RescueBoats {
			f.Boats, more = append(g.Boats, boat(1, r.Intn(61))), append(more, r.Intn(f.Sea.Places))
		}
		if d, e := rescue.Danger(f, more); e != api.ErrNone {
			t.Fatal(f, post, more, d, e)
		}
	}
	wantAll(t, met, true, false)
}
