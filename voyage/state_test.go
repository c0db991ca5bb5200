package voyage_test

import (
	"slices"
	"testing"

	"bathyal/api"
	"bathyal/voyage"
)

// asks returns what the functions say of a state, and checks that their errors are those of it.
func asks(t *testing.T, c api.VoyageChart, s api.VoyageState) truth {
	t.Helper()
	var x truth
	var e, f, g, h, i api.Errno
	x.safe, e = voyage.Home(c, s)
	x.acts, f = voyage.Acts(c, s)
	x.sure, g = voyage.Sure(c, s)
	x.order, h = voyage.Order(c, s)
	x.soonest, i = voyage.Soonest(c, s)
	want, order := api.OK, api.OK
	if !x.safe {
		want, order = api.ErrRule, api.ErrRule
	} else if s.Port == 0 {
		order = api.ErrNone
	}
	if e != api.OK || f != api.OK || g != want || h != order || i != want {
		t.Fatal(c, s, x, e, f, g, h, i)
	}
	return x
}

// P7.2, P7.4, P7.5
func TestStates(t *testing.T) {
	unsafe := truth{}
	lake := with(func(c *api.VoyageChart) { c.Ports[0] = api.VoyagePort{First: 9, Fresh: true, Catch: 100} })
	for i, x := range []struct {
		chart api.VoyageChart
		state api.VoyageState
		want  truth
	}{
		{chartC(), stateS(), truth{true, l(-1, 0, 1), 30, -1, 4}}, {chartC(), stateT(), truth{true, l(2), 0, 2, 9}}, {chartC(), stateU(), unsafe},
		// at home nothing is done, whatever home has
		{chartC(), at(0, 9, 1, 0), truth{true, nil, 0, 0, 9}}, {chartC(), at(0, 0, 0, 4), truth{true, nil, 0, 0, 0}}, {lake, at(0, 3, 0, 1), truth{true, nil, 0, 0, 3}}, {lake, stateS(), truth{true, l(-1, 0, 1), 30, -1, 4}},
		// a boat is not allowed, or will not be if it stays
		{chartC(), at(1, 6, 0, 4), unsafe}, {chartC(), at(2, 9, 0, 4), unsafe}, {chartC(), at(1, 5, 0, 4), truth{true, l(0, 1), 0, 0, 7}}, {with(func(c *api.VoyageChart) { c.Ports[1].First = 3 }), stateS(), unsafe}, {with(func(c *api.VoyageChart) { c.Ports[1].First = 2 }), stateS(), truth{true, l(-1, 0, 1), 30, -1, 4}},
		{with(func(c *api.VoyageChart) { c.Ports[2].First = 6 }), at(1, 5, 1, 1), truth{true, l(1), 0, 1, 8}}, {with(func(c *api.VoyageChart) { c.Ports[2].First = 7 }), at(1, 5, 1, 1), unsafe},
		// there is just enough water, or not
		{chartC(), at(1, 5, 0, 2), truth{true, l(0, 1), 0, 0, 7}}, {chartC(), at(1, 5, 0, 1), truth{true, l(1), 0, 1, 9}}, {chartC(), at(1, 5, 0, 0), unsafe}, {chartC(), at(1, 4, 0, 2), truth{true, l(-1, 0, 1), 10, -1, 6}}, {chartC(), at(1, 4, 0, 1), truth{true, l(1), 3, 1, 8}}, {chartC(), at(1, 4, 0, 0), unsafe},
		// the water of a port with a spring does not matter
		{chartC(), at(2, 7, 0, 0), truth{true, l(2), 0, 2, 9}}, {chartC(), at(2, 5, 1, 0), truth{true, l(-1, 2), 3, -1, 8}}, {chartC(), at(2, 5, 1, 3), truth{true, l(-1, 2), 3, -1, 8}},
		// the End comes, or comes not yet
		{with(func(c *api.VoyageChart) { c.End = 8 }), stateT(), unsafe}, {with(func(c *api.VoyageChart) { c.End = 10 }), stateU(), truth{true, l(-1, 2), 3, -1, 10}},
		// one of several acts that catch as much is the first one
		{with(func(c *api.VoyageChart) { c.Ports[1].Catch = 0 }), at(1, 4, 0, 2), truth{true, l(-1, 0, 1), 3, 1, 6}}, {with(func(c *api.VoyageChart) { c.Ports[1].Catch, c.Ports[2].Catch = 0, 0 }), at(1, 4, 0, 2), truth{true, l(-1, 0, 1), 0, -1, 6}}, {with(func(c *api.VoyageChart) { c.Passages = append(c.Passages, c.Passages[2]) }), stateT(), truth{true, l(2, 3), 0, 2, 9}},
		// to stay can be the only thing that is safe, or not safe at all
		{chartLong(), at(1, 20, 0, 8), unsafe}, {chartLong(), at(1, 19, 0, 8), truth{true, l(0), 0, 0, 20}}, {chartLong(), at(1, 18, 0, 8), truth{true, l(-1, 0), 1, -1, 19}}, {with(func(c *api.VoyageChart) { c.Passages = c.Passages[:1] }), at(1, 3, 1, 4), truth{true, l(-1), 10, -1, 6}},
	} {
		if got := asks(t, x.chart, x.state); !got.is(x.want) {
			t.Error(i, got)
		}
	}
}

// P7.2, P7.3, P7.4, P7.5: states that are not as defined
func TestStateErrors(t *testing.T) {
	for _, s := range badStates() {
		if is, e := voyage.Home(chartC(), s); e != api.ErrArg || is {
			t.Error(s, is, e)
		}
		if a, e := voyage.Acts(chartC(), s); e != api.ErrArg || len(a) > 0 {
			t.Error(s, a, e)
		}
		if w, e := voyage.Know(chartC(), s, 1); e != api.ErrArg || len(w) > 0 {
			t.Error(s, w, e)
		}
		if n, e := voyage.Sure(chartC(), s); e != api.ErrArg || n != 0 {
			t.Error(s, n, e)
		}
		if a, e := voyage.Order(chartC(), s); e != api.ErrArg || a != 0 {
			t.Error(s, a, e)
		}
		if d, e := voyage.Soonest(chartC(), s); e != api.ErrArg || d != 0 {
			t.Error(s, d, e)
		}
		if o, e := voyage.Orders(chartC(), s); e != api.ErrArg || len(o) > 0 {
			t.Error(s, o, e)
		}
	}
}

// P7.2, P7.4, P7.5: what is returned is what is found from the last day back, by the definitions
func TestStatesOfAny(t *testing.T) {
	r := source(2)
	met := map[any]int{}
	for range 300 {
		c := anyChart(r, r.Intn(api.VoyageDays+1), api.VoyagePassages)
		want := truths(c)
		for range 100 {
			s := anyState(r, c)
			if got := asks(t, c, s); !got.is(want[s]) {
				t.Fatal(c, s, got, want[s])
			}
			met[want[s].safe]++
			if len(want[s].acts) > 1 {
				met[want[s].order]++
			}
		}
	}
	wantAll(t, met, any(true), any(false), any(-1), any(0), any(1), any(2), any(3))
}

// P7.2, P0.7: after a safe act each state that can come is safe; after any other one, some wind leads to a state that is not
func TestActs(t *testing.T) {
	r := source(3)
	met := map[any]int{}
	home := func(c api.VoyageChart, s api.VoyageState) bool {
		is, _ := voyage.Home(c, s)
		return is
	}
	for range 2500 {
		c := anyChart(r, anyOf(r, 3, 10), api.VoyagePassages)
		s := anyState(r, c)
		safe, _ := voyage.Acts(c, s)
		for _, act := range acts(c) {
			d, can := do(c, s, act)
			isSafe := can && !slices.ContainsFunc(d.states, func(s api.VoyageState) bool { return !home(c, s) })
			if isSafe != slices.Contains(safe, act) || isSafe && !home(c, s) {
				t.Fatal(c, s, act, safe)
			}
			met[isSafe]++
			if can && !isSafe {
				met["unsafe"]++
			}
		}
		if home(c, s) != (len(safe) > 0 || s.Port == 0) {
			t.Fatal(c, s, safe)
		}
	}
	wantAll(t, met, any(true), any(false), any("unsafe"))
}

// P7.3
func TestLeave(t *testing.T) {
	none := with(func(c *api.VoyageChart) { c.Passages = nil })
	late := with(func(c *api.VoyageChart) { c.Ports[1].First = 6; c.Ports[1].Last = 20 })
	for i, x := range []struct {
		chart             api.VoyageChart
		port, wind, water int
		want              int
		e                 api.Errno
	}{
		{chartC(), 1, 1, 1, 5, api.OK}, {chartC(), 2, 0, 0, 7, api.OK}, {chartC(), 2, 1, 0, 6, api.OK}, {chartC(), 2, 1, 4, 6, api.OK}, {chartC(), 1, 0, 0, 0, api.ErrNone}, {none, 1, 0, 4, 0, api.ErrNone},
		{late, 1, 0, 2, 7, api.OK}, {late, 1, 1, 3, 6, api.OK}, {chartLong(), 1, 2, 0, 19, api.OK}, {with(func(c *api.VoyageChart) { c.Ports[1].Last, c.End = 0, 20 }), 1, 0, 4, 0, api.OK}, {with(func(c *api.VoyageChart) { c.End = 0 }), 1, 0, 4, 0, api.ErrNone},
	} {
		if d, e := voyage.Leave(x.chart, x.port, x.wind, x.water); e != x.e || d != x.want {
			t.Error(i, d, e)
		}
	}
	check := func(port, wind, water int) {
		t.Helper()
		if d, e := voyage.Leave(chartC(), port, wind, water); e != api.ErrArg || d != 0 {
			t.Error(port, wind, water, d, e)
		}
	}
	for _, n := range badNumbers(1, 2) {
		check(n, 0, 4)
	}
	for _, n := range badNumbers(0, 1) {
		check(1, n, 4)
	}
	for _, n := range badNumbers(0, 4) {
		check(1, 0, n)
		check(2, 0, n)
	}
}

// P7.3: after the day that is returned no day is safe, and that one is
func TestLeaveOfAny(t *testing.T) {
	r := source(4)
	met := map[api.Errno]int{}
	for range 1500 {
		c := anyChart(r, r.Intn(api.VoyageDays+1), api.VoyagePassages)
		port, wind, water := anyOf(r, 1, len(c.Ports)-1), r.Intn(len(c.Next)), anyOf(r, 0, c.Cask)
		want, f := 0, api.ErrNone
		for day := range c.End + 1 {
			if is, _ := voyage.Home(c, at(port, day, wind, water)); is {
				want, f = day, api.OK
			}
		}
		d, e := voyage.Leave(c, port, wind, water)
		if e != f || d != want {
			t.Fatal(c, port, wind, water, d, e, want, f)
		}
		met[e]++
	}
	wantAll(t, met, api.OK, api.ErrNone)
}

// P7.3
func TestKnow(t *testing.T) {
	for i, x := range []struct {
		state   api.VoyageState
		passage int
		want    []int
	}{
		{stateT(), 2, l(0)}, {stateS(), 0, l(0)}, {stateS(), 1, l(0, 1)}, {stateU(), 2, l(0)}, {stateS(), 2, nil}, {at(2, 6, 1, 0), 2, l(0, 1)}, {at(2, 8, 0, 4), 2, nil}, {at(1, 6, 0, 4), 0, nil}, {at(1, 5, 1, 1), 0, nil}, {at(1, 5, 1, 2), 0, l(0)}, {at(0, 5, 0, 4), 0, nil},
	} {
		if w, e := voyage.Know(chartC(), x.state, x.passage); e != api.OK || !equal(w, x.want) {
			t.Error(i, w, e)
		}
	}
	for _, n := range append(badNumbers(0, 2), api.VoyageStay) {
		if w, e := voyage.Know(chartC(), stateS(), n); e != api.ErrArg || len(w) > 0 {
			t.Error(n, w, e)
		}
	}
	if w, e := voyage.Know(with(func(c *api.VoyageChart) { c.Passages = nil }), stateS(), 0); e != api.ErrArg || len(w) > 0 {
		t.Error(w, e)
	}
}

// P7.3
func TestKnowOfAny(t *testing.T) {
	r := source(5)
	met := map[int]int{}
	for range 2000 {
		c := anyChart(r, r.Intn(12), api.VoyagePassages)
		s := anyState(r, c)
		for passage := range c.Passages {
			var want []int
			for wind := range c.Next {
				other := at(s.Port, s.Day, wind, s.Water)
				if a, _ := voyage.Acts(c, other); slices.Contains(a, passage) {
					want = append(want, wind)
				}
			}
			w, e := voyage.Know(c, s, passage)
			if e != api.OK || !equal(w, want) {
				t.Fatal(c, s, passage, w, e, want)
			}
			met[len(w)]++
		}
	}
	wantAll(t, met, 0, 1, 2, 3)
}
