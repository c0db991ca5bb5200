package voyage_test

import (
	"math/rand"
	"reflect"
	"slices"
	"testing"

	"bathyal/api"
)

const most, least = 1<<63 - 1, -1 << 63

func l(n ...int) []int { return n }

// at returns a state.
func at(port, day, wind, water int) api.VoyageState {
	return api.VoyageState{Port: port, Day: day, Wind: wind, Water: water}
}

// order returns an order.
func order(s api.VoyageState, act int) api.VoyageOrder {
	return api.VoyageOrder{State: s, Act: act}
}

func orders(o ...api.VoyageOrder) []api.VoyageOrder { return o }

// chartC returns the chart c of the chapter.
func chartC() api.VoyageChart {
	return api.VoyageChart{
		Next:     l(3, 1),
		Ports:    []api.VoyagePort{{}, {Last: 5, Catch: 10}, {Last: 8, Fresh: true, Catch: 3}},
		Passages: []api.VoyagePassage{{From: 1, Days: l(2, 0)}, {From: 1, To: 2, Days: l(1, 1)}, {From: 2, Days: l(2, 3)}},
		Cask:     4, End: 9,
	}
}

// with returns the chart c with something changed.
func with(change func(*api.VoyageChart)) api.VoyageChart {
	c := chartC()
	change(&c)
	return c
}

// The states s, t and u of the chapter.
func stateS() api.VoyageState { return at(1, 2, 0, 4) }

func stateT() api.VoyageState { return at(2, 7, 0, 4) }

func stateU() api.VoyageState { return at(2, 7, 1, 4) }

// ordersS returns the best orders of the state s.
func ordersS() []api.VoyageOrder {
	return orders(
		order(at(1, 2, 0, 4), -1), order(at(1, 3, 0, 3), -1), order(at(1, 3, 1, 3), -1), order(at(1, 4, 0, 2), -1), order(at(1, 4, 1, 2), -1),
		order(at(1, 5, 0, 1), 1), order(at(1, 5, 1, 1), 1), order(at(2, 6, 0, 4), 2), order(at(2, 6, 1, 4), -1), order(at(2, 7, 0, 4), 2),
	)
}

// chartLong returns a chart in which many states come: there are 3 winds, and it makes no difference which one blows.
func chartLong() api.VoyageChart {
	return api.VoyageChart{
		Next:     l(7, 7, 7),
		Ports:    []api.VoyagePort{{}, {Last: 20, Fresh: true, Catch: 1}},
		Passages: []api.VoyagePassage{{From: 1, Days: l(1, 1, 1)}},
		Cask:     8, End: 20,
	}
}

// badNumbers returns numbers that are not from low to high.
func badNumbers(low, high int) []int { return l(low-1, high+1, least, most) }

// badPorts returns changes by which a port other than home is not as defined.
func badPorts() []func(*api.VoyagePort) {
	var bad []func(*api.VoyagePort)
	for _, n := range badNumbers(0, api.VoyageDays) {
		bad = append(bad, func(p *api.VoyagePort) { p.First = n }, func(p *api.VoyagePort) { p.Last = n }, func(p *api.VoyagePort) { p.First, p.Last = n, n })
	}
	for _, n := range badNumbers(0, api.VoyageCatch) {
		bad = append(bad, func(p *api.VoyagePort) { p.Catch = n })
	}
	return append(bad, func(p *api.VoyagePort) { p.First = p.Last + 1 }, func(p *api.VoyagePort) { p.First, p.Last = 20, 0 })
}

// badPassages returns changes by which a passage of the chart c is not as defined.
func badPassages() []func(*api.VoyagePassage) {
	var bad []func(*api.VoyagePassage)
	for _, n := range badNumbers(0, 2) {
		bad = append(bad, func(p *api.VoyagePassage) { p.From = n }, func(p *api.VoyagePassage) { p.To = n })
	}
	for _, n := range badNumbers(0, api.VoyageLong) {
		bad = append(bad, func(p *api.VoyagePassage) { p.Days = l(n, 1) }, func(p *api.VoyagePassage) { p.Days = l(1, n) })
	}
	for _, days := range [][]int{nil, l(), l(1), l(1, 1, 1), l(1, 1, 0)} {
		bad = append(bad, func(p *api.VoyagePassage) { p.Days = days })
	}
	return append(bad, func(p *api.VoyagePassage) { p.To = p.From }, func(p *api.VoyagePassage) { p.From = p.To })
}

// badCharts returns charts that are not as defined.
func badCharts() []api.VoyageChart {
	bad := []api.VoyageChart{{}, {Cask: 1}}
	add := func(change func(*api.VoyageChart)) { bad = append(bad, with(change)) }
	for _, next := range [][]int{nil, l(), l(1), l(1, 1, 1), l(1, 1, 1, 1)} {
		add(func(c *api.VoyageChart) { c.Next = next })
	}
	for _, winds := range l(0, 4, 64) {
		add(func(c *api.VoyageChart) {
			c.Next = slices.Repeat(l(1), winds)
			for i := range c.Passages {
				c.Passages[i].Days = slices.Repeat(l(1), winds)
			}
		})
	}
	for _, n := range l(0, 4, 5, 8, 1<<32+1, -1, least, least+1, most) {
		add(func(c *api.VoyageChart) { c.Next[0] = n })
		add(func(c *api.VoyageChart) { c.Next[1] = n })
	}
	add(func(c *api.VoyageChart) { c.Ports = nil })
	add(func(c *api.VoyageChart) { c.Ports, c.Passages = c.Ports[:1], nil })
	add(func(c *api.VoyageChart) { c.Ports = c.Ports[:2] })
	add(func(c *api.VoyageChart) { c.Ports = slices.Concat(c.Ports, c.Ports[1:]) })
	for _, change := range badPorts() {
		add(func(c *api.VoyageChart) { change(&c.Ports[1]) })
		add(func(c *api.VoyageChart) { change(&c.Ports[2]) })
	}
	for _, change := range badPassages() {
		add(func(c *api.VoyageChart) { change(&c.Passages[0]) })
		add(func(c *api.VoyageChart) { change(&c.Passages[2]) })
	}
	add(func(c *api.VoyageChart) { c.Passages = slices.Repeat(c.Passages, 3) })
	for _, n := range badNumbers(1, api.VoyageCask) {
		add(func(c *api.VoyageChart) { c.Cask = n })
	}
	for _, n := range badNumbers(0, api.VoyageDays) {
		add(func(c *api.VoyageChart) { c.End = n })
	}
	return bad
}

// badStates returns states that are not as defined for the chart c.
func badStates() []api.VoyageState {
	var bad []api.VoyageState
	for _, n := range badNumbers(0, 2) {
		bad = append(bad, at(n, 2, 0, 4))
	}
	for port := range 3 {
		for _, n := range badNumbers(0, 9) {
			bad = append(bad, at(port, n, 0, 4))
		}
		for _, n := range badNumbers(0, 1) {
			bad = append(bad, at(port, 2, n, 4))
		}
		for _, n := range badNumbers(0, 4) {
			bad = append(bad, at(port, 2, 0, n))
		}
	}
	return bad
}

// badOrders returns lists of orders that are not as defined for the chart c.
func badOrders() [][]api.VoyageOrder {
	bad := [][]api.VoyageOrder{
		// at home, where a boat is not allowed, and where the water is not what is meant
		orders(order(at(0, 2, 0, 4), -1)), orders(order(at(1, 6, 0, 4), 0)), orders(order(at(2, 9, 0, 4), 2)), orders(order(at(2, 7, 0, 3), 2)), orders(order(at(2, 7, 0, 0), 2)),
		// equal states, and states in another order
		orders(order(stateS(), 0), order(stateS(), 0)), orders(order(stateS(), 0), order(stateS(), 1)), orders(order(stateT(), 2), order(stateS(), 0)), orders(order(at(2, 2, 0, 4), -1), order(at(1, 2, 1, 4), -1)), orders(order(at(1, 2, 1, 3), -1), order(at(1, 2, 0, 4), -1)), orders(order(at(1, 2, 0, 4), -1), order(at(1, 2, 0, 3), -1)),
	}
	for _, s := range badStates() {
		bad = append(bad, orders(order(s, -1)), append(orders(order(at(1, 0, 0, 0), -1)), order(s, -1)))
	}
	for _, n := range badNumbers(-1, 2) {
		bad = append(bad, orders(order(stateS(), n)), orders(order(stateS(), 0), order(stateT(), n)))
	}
	return append(bad, allOrders(chartC(), api.VoyageOrders+1), allOrders(chartC(), 100))
}

// allOrders returns the first orders of a chart, so many of them, which are all to stay.
func allOrders(c api.VoyageChart, many int) []api.VoyageOrder {
	var all []api.VoyageOrder
	for day := range c.End + 1 {
		for port := 1; port < len(c.Ports); port++ {
			for wind := range c.Next {
				for water := range c.Cask + 1 {
					s := at(port, day, wind, water)
					if isAllowed(c, s) && meant(c, s) == s && len(all) < many {
						all = append(all, order(s, api.VoyageStay))
					}
				}
			}
		}
	}
	return all
}

// source returns numbers that are the same in each run.
func source(seed int64) *rand.Rand { return rand.New(rand.NewSource(seed)) }

// anyOf returns a number from low to high.
func anyOf(r *rand.Rand, low, high int) int { return low + r.Intn(high-low+1) }

// anyChart returns a chart with an End, and at most so many passages, in which something can be done mostly.
func anyChart(r *rand.Rand, end, passages int) api.VoyageChart {
	winds, ports := anyOf(r, 1, api.VoyageWinds), anyOf(r, 2, api.VoyagePorts)
	c := api.VoyageChart{Cask: anyOf(r, 1, api.VoyageCask), End: end}
	for range winds {
		c.Next = append(c.Next, anyOf(r, 1, 1<<winds-1))
	}
	for range ports {
		first, last := anyOf(r, 0, end), anyOf(r, 0, end)
		if r.Intn(2) == 0 {
			first, last = 0, end
		}
		c.Ports = append(c.Ports, api.VoyagePort{First: min(first, last), Last: max(first, last), Fresh: r.Intn(3) == 0, Catch: r.Intn(6)})
	}
	for range anyOf(r, 0, passages) {
		from := anyOf(r, 0, ports-1)
		p := api.VoyagePassage{From: from, To: (from + anyOf(r, 1, ports-1)) % ports}
		if r.Intn(2) == 0 {
			p.From, p.To = anyOf(r, 1, ports-1), 0
		}
		longest := anyOf(r, 1, api.VoyageLong)
		for range winds {
			p.Days = append(p.Days, max(anyOf(r, -1, longest), 0))
		}
		c.Passages = append(c.Passages, p)
	}
	return c
}

// anyState returns a state of a chart, mostly one of the first days, and not at home.
func anyState(r *rand.Rand, c api.VoyageChart) api.VoyageState {
	s := at(r.Intn(len(c.Ports)), anyOf(r, 0, c.End), r.Intn(len(c.Next)), anyOf(r, 0, c.Cask))
	if r.Intn(4) > 0 {
		s.Day = anyOf(r, 0, c.End/2)
		s.Port = anyOf(r, 1, len(c.Ports)-1)
	}
	return s
}

// states returns all states of a chart.
func states(c api.VoyageChart) []api.VoyageState {
	var all []api.VoyageState
	for day := range c.End + 1 {
		for port := range c.Ports {
			for wind := range c.Next {
				for water := range c.Cask + 1 {
					all = append(all, at(port, day, wind, water))
				}
			}
		}
	}
	return all
}

// acts returns all acts of a chart.
func acts(c api.VoyageChart) []int {
	all := l(api.VoyageStay)
	for i := range c.Passages {
		all = append(all, i)
	}
	return all
}

// isAllowed reports whether a boat is allowed in a state, by the definition.
func isAllowed(c api.VoyageChart, s api.VoyageState) bool {
	return s.Port == 0 || c.Ports[s.Port].First <= s.Day && s.Day <= c.Ports[s.Port].Last
}

// meant returns the state that is meant by a state, by the definition.
func meant(c api.VoyageChart, s api.VoyageState) api.VoyageState {
	if s.Port > 0 && c.Ports[s.Port].Fresh {
		s.Water = c.Cask
	}
	return s
}

// follows reports whether a wind can blow on the day after another one, by the definition.
func follows(c api.VoyageChart, before, wind int) bool { return c.Next[before]/(1<<wind)%2 == 1 }

// isAfter reports whether a wind can blow so many days after another one, by the definition.
func isAfter(c api.VoyageChart, before, days, wind int) bool {
	if days == 0 {
		return before == wind
	}
	for between := range c.Next {
		if follows(c, before, between) && isAfter(c, between, days-1, wind) {
			return true
		}
	}
	return false
}

// done is what an act does: the states that can come, in the order of their winds, and what is caught.
type done struct {
	states []api.VoyageState
	caught int
}

// do returns what an act does in a state, or false if it cannot be done, by the definition.
func do(c api.VoyageChart, s api.VoyageState, act int) (done, bool) {
	s = meant(c, s)
	if s.Port == 0 || !isAllowed(c, s) {
		return done{}, false
	}
	days, to, caught := 1, s.Port, c.Ports[s.Port].Catch
	if act != api.VoyageStay {
		p := c.Passages[act]
		days, to, caught = p.Days[s.Wind], p.To, 0
		if p.From != s.Port || days < 1 {
			return done{}, false
		}
	}
	if s.Water < days || s.Day+days > c.End || !isAllowed(c, at(to, s.Day+days, 0, 0)) {
		return done{}, false
	}
	x := done{caught: caught}
	for wind := range c.Next {
		if isAfter(c, s.Wind, days, wind) {
			x.states = append(x.states, meant(c, at(to, s.Day+days, wind, s.Water-days)))
		}
	}
	return x, true
}

// truth is what is true of a state, by the definitions.
type truth struct {
	safe    bool
	acts    []int
	sure    int
	order   int
	soonest int
}

// is reports whether the same is true of two states.
func (x truth) is(y truth) bool {
	return x.safe == y.safe && slices.Equal(x.acts, y.acts) && x.sure == y.sure && x.order == y.order && x.soonest == y.soonest
}

// truths returns what is true of all states, found from the last day back to the first one.
func truths(c api.VoyageChart) map[api.VoyageState]truth {
	found := map[api.VoyageState]truth{}
	all := states(c)
	slices.Reverse(all)
	for _, s := range all {
		found[s] = truthOf(c, s, found)
	}
	return found
}

// truthOf returns what is true of a state, if it is found already for all states of later days.
func truthOf(c api.VoyageChart, s api.VoyageState, found map[api.VoyageState]truth) truth {
	if s.Port == 0 {
		return truth{safe: true, soonest: s.Day}
	}
	x := truth{sure: -1, soonest: most}
	for _, act := range acts(c) {
		d, can := do(c, s, act)
		isUnsafe := func(s api.VoyageState) bool { return !found[s].safe }
		if !can || slices.ContainsFunc(d.states, isUnsafe) {
			continue
		}
		var caught, days []int
		for _, next := range d.states {
			caught = append(caught, d.caught+found[next].sure)
			days = append(days, found[next].soonest)
		}
		x.safe, x.acts, x.soonest = true, append(x.acts, act), min(x.soonest, slices.Max(days))
		if n := slices.Min(caught); n > x.sure {
			x.sure, x.order = n, act
		}
	}
	if !x.safe {
		return truth{}
	}
	return x
}

// voyages returns all winds of a voyage from a state, by the definition.
func voyages(c api.VoyageChart, s api.VoyageState) [][]int {
	all := [][]int{l(s.Wind)}
	for range c.End - s.Day {
		var longer [][]int
		for _, winds := range all {
			for wind := range c.Next {
				if follows(c, winds[len(winds)-1], wind) {
					longer = append(longer, append(slices.Clone(winds), wind))
				}
			}
		}
		all = longer
	}
	return all
}

// played is a voyage that was played: where it ended, what was caught, and whether that was at home, with an order that can be done for each state on the way.
type played struct {
	end    api.VoyageState
	caught int
	keeps  bool
}

// play plays a voyage with given winds, by the definition.
func play(c api.VoyageChart, s api.VoyageState, o []api.VoyageOrder, winds []int) played {
	x := played{end: meant(c, s)}
	for first := s.Day; x.end.Port > 0; {
		i := slices.IndexFunc(o, func(o api.VoyageOrder) bool { return o.State == x.end })
		if i < 0 {
			return x
		}
		d, can := do(c, x.end, o[i].Act)
		if !can {
			return x
		}
		x.end = d.states[0]
		x.end.Wind = winds[x.end.Day-first]
		x.caught += d.caught
	}
	x.keeps = true
	return x
}

// playAll returns whether orders keep, what they surely catch, and on which day home is reached at the latest, for all winds of a voyage.
func playAll(c api.VoyageChart, s api.VoyageState, o []api.VoyageOrder) (keeps bool, yield, latest int) {
	yield = most
	for _, winds := range voyages(c, s) {
		x := play(c, s, o, winds)
		if !x.keeps {
			return false, 0, 0
		}
		yield, latest = min(yield, x.caught), max(latest, x.end.Day)
	}
	return isAllowed(c, s), yield, latest
}

// sorted returns orders in their order.
func sorted(o []api.VoyageOrder) []api.VoyageOrder {
	o = slices.Clone(o)
	slices.SortFunc(o, func(a, b api.VoyageOrder) int {
		key := func(s api.VoyageState) int { return ((s.Day*100+s.Port)*100+s.Wind)*100 + s.Water }
		return key(a.State) - key(b.State)
	})
	return o
}

// proposal returns some orders from a state, by which something that can be done is done in each state that can come, as long as there is something; acts are chosen by a function.
func proposal(c api.VoyageChart, s api.VoyageState, choose func(s api.VoyageState, acts []int) int) []api.VoyageOrder {
	var o []api.VoyageOrder
	met := map[api.VoyageState]bool{}
	coming := []api.VoyageState{meant(c, s)}
	for len(coming) > 0 {
		s := coming[0]
		coming = coming[1:]
		var can []int
		for _, act := range acts(c) {
			if _, is := do(c, s, act); is {
				can = append(can, act)
			}
		}
		if met[s] || len(can) == 0 {
			continue
		}
		met[s] = true
		act := choose(s, can)
		d, _ := do(c, s, act)
		o = append(o, order(s, act))
		coming = append(coming, d.states...)
	}
	return sorted(o)
}

// equal compares values of any type; nil and empty lists are the same.
func equal(a, b any) bool {
	return same(reflect.ValueOf(a), reflect.ValueOf(b))
}

func same(x, y reflect.Value) bool {
	if x.Type() != y.Type() {
		return false
	}
	switch x.Kind() {
	case reflect.Slice:
		if x.Len() != y.Len() {
			return false
		}
		for i := range x.Len() {
			if !same(reflect.ValueOf(x.Index(i).Interface()), reflect.ValueOf(y.Index(i).Interface())) {
				return false
			}
		}
		return true
	case reflect.Struct:
		for i := range x.NumField() {
			if !same(x.Field(i), y.Field(i)) {
				return false
			}
		}
		return true
	}
	return reflect.DeepEqual(x.Interface(), y.Interface())
}

// wantAll fails if some kind of case was never met, so that a test does not pass for nothing.
func wantAll[K comparable](t *testing.T, met map[K]int, kinds ...K) {
	t.Helper()
	for _, kind := range kinds {
		if met[kind] < 5 {
			t.Errorf("only %d cases: %v", met[kind], kind)
		}
	}
}
