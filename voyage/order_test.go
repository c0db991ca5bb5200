package voyage_test

import (
	"math/rand"
	"slices"
	"testing"

	"bathyal/api"
	"bathyal/voyage"
)

// P7.6
func TestOrders(t *testing.T) {
	for i, x := range []struct {
		chart api.VoyageChart
		state api.VoyageState
		want  []api.VoyageOrder
		e     api.Errno
	}{
		{chartC(), stateS(), ordersS(), api.OK}, {chartC(), stateT(), orders(order(stateT(), 2)), api.OK}, {chartC(), at(2, 7, 0, 1), orders(order(stateT(), 2)), api.OK}, {chartC(), at(0, 3, 1, 2), nil, api.OK},
		{chartC(), stateU(), nil, api.ErrRule}, {chartC(), at(1, 6, 0, 4), nil, api.ErrRule}, {chartC(), at(1, 5, 0, 0), nil, api.ErrRule},
	} {
		if o, e := voyage.Orders(x.chart, x.state); e != x.e || !equal(o, x.want) {
			t.Error(i, o, e)
		}
	}
	// there is one order on the first day, and three on each of the others up to the day 19
	for day, many := range map[int]int{0: 58, 1: 55, 19: 1} {
		if o, e := voyage.Orders(chartLong(), at(1, day, 0, 8)); e != api.OK || len(o) != many {
			t.Error(day, len(o), e)
		}
	}
}

// wideChart returns a chart in which any wind can follow, a boat is allowed everywhere, and some ports are better than others.
func wideChart(r *rand.Rand) api.VoyageChart {
	ports := anyOf(r, 2, api.VoyagePorts)
	c := api.VoyageChart{Next: l(7, 7, 7), Cask: api.VoyageCask, End: anyOf(r, 15, api.VoyageDays)}
	for port := range ports {
		c.Ports = append(c.Ports, api.VoyagePort{Last: c.End, Fresh: true, Catch: anyOf(r, 0, api.VoyageCatch)})
		if port > 0 {
			c.Passages = append(c.Passages, api.VoyagePassage{From: port, Days: l(1, 1, 1)})
		}
	}
	for range anyOf(r, 0, 4) {
		from := anyOf(r, 1, ports-1)
		to := from%(ports-1) + 1
		if from != to {
			c.Passages = append(c.Passages, api.VoyagePassage{From: from, To: to, Days: l(r.Intn(2), r.Intn(2), r.Intn(2))})
		}
	}
	return c
}

// P7.6: there can be more orders than a list may have
func TestManyOrders(t *testing.T) {
	r := source(6)
	met := map[any]int{}
	for range 1000 {
		c := wideChart(r)
		s := at(anyOf(r, 1, len(c.Ports)-1), anyOf(r, 0, c.End), r.Intn(3), r.Intn(9))
		want := proposal(c, s, func(s api.VoyageState, _ []int) int {
			act, e := voyage.Order(c, s)
			if e != api.OK {
				t.Fatal(c, s, e)
			}
			return act
		})
		f := api.OK
		if s.Day == c.End {
			f = api.ErrRule
		} else if len(want) > api.VoyageOrders {
			want, f = nil, api.ErrLong
		}
		if o, e := voyage.Orders(c, s); e != f || !equal(o, want) {
			t.Fatal(c, s, o, e, want, f)
		}
		met[f]++
		met[len(want)/10]++
	}
	wantAll(t, met, any(api.OK), any(api.ErrLong), any(api.ErrRule), any(1), any(2), any(3), any(4), any(5))
	// in the port 1 there are 58, and in the port 2, to which one sails as soon as it is open and the wind 2 blows, one on each day up to the day 19
	for i, x := range []struct {
		first, many int
		e           api.Errno
	}{{19, 58, api.OK}, {18, 60, api.OK}, {17, 0, api.ErrLong}, {16, 0, api.ErrLong}} {
		c := api.VoyageChart{
			Next: l(7, 7, 4), Ports: []api.VoyagePort{{}, {Last: 20, Fresh: true, Catch: 1}, {First: x.first, Last: 19, Fresh: true, Catch: 100}},
			Passages: []api.VoyagePassage{{From: 1, Days: l(1, 1, 1)}, {From: 2, Days: l(1, 1, 1)}, {From: 1, To: 2, Days: l(0, 0, 1)}}, Cask: 8, End: 20,
		}
		if o, e := voyage.Orders(c, at(1, 0, 0, 8)); e != x.e || len(o) != x.many {
			t.Error(i, len(o), e)
		}
	}
}

// P7.6, P7.4, P7.7, P0.7: the best orders keep, and surely catch what is surely caught, with all winds
func TestOrdersOfAny(t *testing.T) {
	r := source(7)
	met := map[any]int{}
	for range 2500 {
		c := anyChart(r, anyOf(r, 2, 9), api.VoyagePassages)
		s := anyState(r, c)
		o, e := voyage.Orders(c, s)
		if safe, _ := voyage.Home(c, s); safe != (e == api.OK) {
			t.Fatal(c, s, o, e)
		}
		met[e]++
		if e != api.OK {
			continue
		}
		sure, _ := voyage.Sure(c, s)
		keeps, yield, latest := playAll(c, s, o)
		if !keeps || yield != sure || latest > c.End {
			t.Fatal(c, s, o, keeps, yield, latest)
		}
		if is, e := voyage.Keeps(c, s, o); e != api.OK || !is {
			t.Fatal(c, s, o, is, e)
		}
		if n, e := voyage.Yield(c, s, o); e != api.OK || n != sure {
			t.Fatal(c, s, o, n, e)
		}
		for _, x := range o {
			if act, e := voyage.Order(c, x.State); e != api.OK || act != x.Act {
				t.Fatal(c, s, x, act, e)
			}
		}
		met[min(len(o), 10)]++
	}
	wantAll(t, met, any(api.OK), any(api.ErrRule), any(0), any(1), any(2), any(3), any(10))
}

// policies calls a function with all orders from a state by which something is done in each state that can come, and reports whether there are not too many of them.
func policies(c api.VoyageChart, s api.VoyageState, each func(o []api.VoyageOrder)) bool {
	left := 3000
	var decide func(o []api.VoyageOrder, coming []api.VoyageState) bool
	decide = func(o []api.VoyageOrder, coming []api.VoyageState) bool {
		for len(coming) > 0 && (coming[0].Port == 0 || slices.ContainsFunc(o, func(o api.VoyageOrder) bool { return o.State == coming[0] })) {
			coming = coming[1:]
		}
		if len(coming) == 0 {
			left--
			each(o)
			return left > 0
		}
		for _, act := range acts(c) {
			d, can := do(c, coming[0], act)
			if can && !decide(append(slices.Clone(o), order(coming[0], act)), slices.Concat(d.states, coming[1:])) {
				return false
			}
		}
		return true
	}
	return decide(nil, []api.VoyageState{meant(c, s)})
}

// P7.2, P7.4, P7.5, P7.6: of all orders of small charts, none that keep catch more, or bring the boat home sooner, and some do just so; home is surely reached if some keep
func TestAllOrders(t *testing.T) {
	r := source(8)
	met := map[any]int{}
	for range 4000 {
		c := anyChart(r, anyOf(r, 2, 7), 5)
		s := anyState(r, c)
		most, soonest := -1, c.End+1
		few := isAllowed(c, s) && policies(c, s, func(o []api.VoyageOrder) {
			keeps, yield, latest := playAll(c, s, o)
			if !keeps {
				t.Fatal(c, s, o)
			}
			most, soonest = max(most, yield), min(soonest, latest)
			met["orders"]++
		})
		if !few && isAllowed(c, s) {
			continue
		}
		x := asks(t, c, s)
		if x.safe != (most >= 0) || x.safe && (x.sure != most || x.soonest != soonest) {
			t.Fatal(c, s, x, most, soonest)
		}
		met[x.safe]++
		if x.safe && x.sure > 0 && x.soonest < c.End {
			met["caught"]++
		}
	}
	wantAll(t, met, any(true), any(false), any("caught"), any("orders"))
}

// anyAct returns a choice of acts that takes any one.
func anyAct(r *rand.Rand) func(api.VoyageState, []int) int {
	return func(_ api.VoyageState, acts []int) int { return acts[r.Intn(len(acts))] }
}

// P7.4, P7.5, P7.6: nor do orders that somebody proposes for larger charts
func TestProposals(t *testing.T) {
	r := source(9)
	met := map[any]int{}
	for range 4000 {
		c := anyChart(r, anyOf(r, 3, 8), api.VoyagePassages)
		s := anyState(r, c)
		o := proposal(c, s, func(s api.VoyageState, all []int) int {
			if safe, _ := voyage.Acts(c, s); len(safe) > 0 && r.Intn(20) > 0 {
				all = safe
			}
			return all[r.Intn(len(all))]
		})
		if len(o) > api.VoyageOrders {
			continue
		}
		keeps, yield, latest := playAll(c, s, o)
		if is, e := voyage.Keeps(c, s, o); e != api.OK || is != keeps {
			t.Fatal(c, s, o, is, e)
		}
		met[keeps]++
		if !keeps {
			continue
		}
		x := asks(t, c, s)
		if !x.safe || x.sure < yield || x.soonest > latest {
			t.Fatal(c, s, o, x, yield, latest)
		}
		met[kind(x.sure > yield, "less")]++
		met[kind(x.soonest < latest, "later")]++
	}
	wantAll(t, met, any(true), any(false), any("less"), any("later"))
}

// kind returns the name of a kind, or of what is not of it.
func kind(is bool, name string) any {
	if is {
		return name
	}
	return "not " + name
}

// P7.6
func TestKeeps(t *testing.T) {
	without := func(i int) []api.VoyageOrder { return slices.Delete(ordersS(), i, i+1) }
	for i, x := range []struct {
		state api.VoyageState
		o     []api.VoyageOrder
		keeps bool
		yield int
	}{
		{stateS(), ordersS(), true, 30}, {stateT(), orders(order(stateT(), 2)), true, 0}, {at(2, 7, 0, 0), orders(order(stateT(), 2)), true, 0}, {at(1, 4, 1, 2), ordersS(), true, 10}, {at(2, 6, 1, 0), ordersS(), true, 3}, {stateS(), orders(order(stateS(), 0)), true, 0},
		// at home nothing need be ordered; orders for other states do no harm
		{at(0, 5, 0, 0), nil, true, 0}, {at(0, 5, 0, 0), ordersS(), true, 0}, {stateT(), ordersS(), true, 0}, {stateS(), orders(order(stateS(), 0), order(stateT(), 0)), true, 0},
		// an order is missing, or its act cannot be done
		{stateS(), nil, false, 0}, {stateS(), without(0), false, 0}, {stateS(), without(4), false, 0}, {stateS(), without(9), false, 0}, {stateU(), ordersS(), false, 0}, {stateS(), orders(order(stateS(), 2)), false, 0}, {stateU(), orders(order(stateU(), 2)), false, 0}, {stateU(), orders(order(stateU(), -1)), false, 0}, {at(1, 2, 1, 4), orders(order(at(1, 2, 1, 4), 0)), false, 0},
		// a boat is not allowed
		{at(1, 6, 0, 4), nil, false, 0}, {at(1, 6, 0, 4), ordersS(), false, 0}, {at(2, 9, 0, 4), ordersS(), false, 0},
	} {
		want := api.OK
		if !x.keeps {
			want = api.ErrRule
		}
		if is, e := voyage.Keeps(chartC(), x.state, x.o); e != api.OK || is != x.keeps {
			t.Error(i, is, e)
		}
		if n, e := voyage.Yield(chartC(), x.state, x.o); e != want || n != x.yield {
			t.Error(i, n, e)
		}
		winds := voyages(chartC(), x.state)[0]
		end, n, e := voyage.Play(chartC(), x.state, x.o, winds)
		if e != want || e != api.OK && (end != api.VoyageState{} || n != 0) {
			t.Error(i, end, n, e)
		}
	}
	// as many orders as a list may have
	if is, e := voyage.Keeps(chartC(), stateS(), allOrders(chartC(), api.VoyageOrders)); e != api.OK || is {
		t.Error(is, e)
	}
	if is, e := voyage.Keeps(chartC(), at(0, 0, 0, 0), allOrders(chartC(), api.VoyageOrders)); e != api.OK || !is {
		t.Error(is, e)
	}
}

// P7.6, P7.7: orders, and states, that are not as defined
func TestOrderErrors(t *testing.T) {
	check := func(s api.VoyageState, o []api.VoyageOrder, winds []int) {
		t.Helper()
		if is, e := voyage.Keeps(chartC(), s, o); e != api.ErrArg || is {
			t.Error(s, o, is, e)
		}
		if n, e := voyage.Yield(chartC(), s, o); e != api.ErrArg || n != 0 {
			t.Error(s, o, n, e)
		}
		if end, n, e := voyage.Play(chartC(), s, o, winds); e != api.ErrArg || end != (api.VoyageState{}) || n != 0 {
			t.Error(s, o, end, n, e)
		}
	}
	for _, o := range badOrders() {
		check(stateS(), o, make([]int, 8))
		check(at(0, 2, 0, 4), o, make([]int, 8))
	}
	for _, s := range badStates() {
		check(s, ordersS(), make([]int, 8))
		check(s, nil, nil)
	}
}

// P7.6, P7.7, P0.7: Keeps, Yield and Play are what is played with all winds, by the definitions, for orders of which some are missing or others
func TestPlayOfAny(t *testing.T) {
	r := source(10)
	met := map[any]int{}
	for range 2500 {
		c := anyChart(r, anyOf(r, 2, 8), api.VoyagePassages)
		s := anyState(r, c)
		o := proposal(c, s, anyAct(r))
		if best, e := voyage.Orders(c, s); e == api.OK && r.Intn(3) > 0 {
			o = best
		}
		if len(o) > 0 && r.Intn(4) == 0 {
			o[r.Intn(len(o))].Act = anyOf(r, -1, len(c.Passages)-1)
		}
		if len(o) > 0 && r.Intn(4) == 0 {
			o = slices.Delete(o, 0, 1)
		}
		if len(o) > api.VoyageOrders {
			continue
		}
		keeps, yield, _ := playAll(c, s, o)
		want := api.ErrRule
		if keeps {
			want = api.OK
		}
		if is, e := voyage.Keeps(c, s, o); e != api.OK || is != keeps {
			t.Fatal(c, s, o, is, e, keeps)
		}
		if n, e := voyage.Yield(c, s, o); e != want || n != yield {
			t.Fatal(c, s, o, n, e, yield)
		}
		winds := voyages(c, s)
		for _, i := range r.Perm(len(winds))[:min(len(winds), 20)] {
			x := play(c, s, o, winds[i])
			if !keeps {
				x = played{}
			}
			end, n, e := voyage.Play(c, s, o, winds[i])
			if e != want || end != x.end || n != x.caught || n < yield || keeps && (end.Port != 0 || end.Day > c.End) {
				t.Fatal(c, s, o, winds[i], end, n, e, x)
			}
			met[kind(n > yield, "more")]++
		}
		met[keeps]++
	}
	wantAll(t, met, any(true), any(false), any("more"))
}

// P7.7
func TestPlay(t *testing.T) {
	for i, x := range []struct {
		state  api.VoyageState
		o      []api.VoyageOrder
		winds  []int
		end    api.VoyageState
		caught int
		e      api.Errno
	}{
		{stateS(), ordersS(), l(0, 1, 0, 0, 1, 0, 1, 0), at(0, 9, 0, 2), 33, api.OK}, {stateS(), ordersS(), l(0, 0, 0, 0, 0, 0, 1, 0), at(0, 8, 1, 2), 30, api.OK}, {stateS(), ordersS(), l(0, 1, 0, 1, 0, 1, 0, 1), at(0, 8, 0, 2), 30, api.OK}, {stateT(), ordersS(), l(0, 1, 0), at(0, 9, 0, 2), 0, api.OK}, {at(2, 7, 0, 0), ordersS(), l(0, 0, 1), at(0, 9, 1, 2), 0, api.OK},
		// at home the state is reached already
		{at(0, 8, 1, 3), nil, l(1, 0), at(0, 8, 1, 3), 0, api.OK}, {at(0, 9, 0, 0), ordersS(), l(0), at(0, 9, 0, 0), 0, api.OK},
		// winds that cannot blow, and too many or too few of them, come before orders that do not keep
		{stateS(), ordersS()[1:], l(0, 0, 0, 0, 0, 0, 0, 0), at(0, 0, 0, 0), 0, api.ErrRule}, {stateS(), ordersS()[1:], l(0, 1, 1, 0, 0, 0, 0, 0), at(0, 0, 0, 0), 0, api.ErrArg}, {at(1, 6, 0, 4), nil, l(0, 0, 0, 0), at(0, 0, 0, 0), 0, api.ErrRule}, {at(1, 6, 0, 4), nil, l(0, 0, 0), at(0, 0, 0, 0), 0, api.ErrArg},
		// orders do not keep, although those that would be needed with these winds are there
		{stateS(), ordersS()[:9], l(0, 0, 0, 0, 0, 0, 0, 0), at(0, 0, 0, 0), 0, api.ErrRule},
	} {
		if end, n, e := voyage.Play(chartC(), x.state, x.o, x.winds); e != x.e || end != x.end || n != x.caught {
			t.Error(i, end, n, e)
		}
	}
	for i, winds := range [][]int{nil, l(), l(0), l(0, 0, 0, 0, 0, 0, 0), l(0, 0, 0, 0, 0, 0, 0, 0, 0), l(1, 0, 0, 0, 0, 0, 0, 0), l(0, 1, 1, 0, 0, 0, 0, 0), l(0, 0, 0, 0, 0, 0, 1, 1), l(0, 0, 0, 0, 0, 0, 0, 2), l(0, 0, 0, 0, 0, 0, 0, -1), l(0, least, 0, 0, 0, 0, 0, 0), l(0, most, 0, 0, 0, 0, 0, 0), l(0, 64, 0, 0, 0, 0, 0, 0), l(2, 0, 0, 0, 0, 0, 0, 0)} {
		if end, n, e := voyage.Play(chartC(), stateS(), ordersS(), winds); e != api.ErrArg || end != (api.VoyageState{}) || n != 0 {
			t.Error(i, end, n, e)
		}
		if end, n, e := voyage.Play(chartC(), at(0, 2, 0, 4), nil, winds); e != api.ErrArg || end != (api.VoyageState{}) || n != 0 {
			t.Error(i, end, n, e)
		}
	}
}

// P7.6, P7.7: many paths to few states take no longer than the states
func TestLongVoyage(t *testing.T) {
	o, e := voyage.Orders(chartLong(), at(1, 0, 0, 8))
	if e != api.OK {
		t.Fatal(e)
	}
	if n, e := voyage.Yield(chartLong(), at(1, 0, 0, 8), o); e != api.OK || n != 19 {
		t.Error(n, e)
	}
	winds := slices.Repeat(l(0, 2, 1), 7)
	if end, n, e := voyage.Play(chartLong(), at(1, 0, 0, 8), o, winds); e != api.OK || end != at(0, 20, 1, 7) || n != 19 {
		t.Error(end, n, e)
	}
}
