package voyage_test

import (
	"math/rand"
	"slices"
	"testing"

	"bathyal/api"
	"bathyal/voyage"
)

// results is the results of a call, of which the last one is its error.
type results []any

// given is arguments of all functions.
type given struct {
	chart       api.VoyageChart
	state       api.VoyageState
	wind, days  int
	port, water int
	passage     int
	orders      []api.VoyageOrder
	winds       []int
	text        string
}

// functions is how many functions the chapter lists; the first ones are those of charts.
const (
	functions = 15
	ofCharts  = 13
)

// asked returns the results of all functions.
func asked(g given) []results {
	var all []results
	add := func(r ...any) { all = append(all, r) }
	add(voyage.Check(g.chart))
	list, e := voyage.Winds(g.chart, g.wind, g.days)
	add(list, e)
	is, e := voyage.Home(g.chart, g.state)
	add(is, e)
	list, e = voyage.Acts(g.chart, g.state)
	add(list, e)
	n, e := voyage.Leave(g.chart, g.port, g.wind, g.water)
	add(n, e)
	list, e = voyage.Know(g.chart, g.state, g.passage)
	add(list, e)
	n, e = voyage.Sure(g.chart, g.state)
	add(n, e)
	n, e = voyage.Order(g.chart, g.state)
	add(n, e)
	n, e = voyage.Soonest(g.chart, g.state)
	add(n, e)
	o, e := voyage.Orders(g.chart, g.state)
	add(o, e)
	is, e = voyage.Keeps(g.chart, g.state, g.orders)
	add(is, e)
	n, e = voyage.Yield(g.chart, g.state, g.orders)
	add(n, e)
	end, n, e := voyage.Play(g.chart, g.state, g.orders, g.winds)
	add(end, n, e)
	text, e := voyage.Print(g.orders)
	add(text, e)
	o, e = voyage.Read(g.text)
	add(o, e)
	return all
}

// isZero reports whether a result is what it is together with an error.
func isZero(result any) bool {
	switch x := result.(type) {
	case bool:
		return !x
	case int:
		return x == 0
	case string:
		return x == ""
	case api.VoyageState:
		return x == api.VoyageState{}
	case []int:
		return len(x) == 0
	case []api.VoyageOrder:
		return len(x) == 0
	}
	return false
}

// wild returns a number, or one that is out of all ranges.
func wild(r *rand.Rand, n int) int {
	all := l(least, least+1, -256, -2, -1, 0, 1, 3, 4, 5, 8, 9, 20, 21, 61, 64, 101, 1<<31, 1<<32+1, most-1, most)
	if r.Intn(150) > 0 {
		return n
	}
	return all[r.Intn(len(all))]
}

// wildState returns a state with some numbers that are out of all ranges.
func wildState(r *rand.Rand, s api.VoyageState) api.VoyageState {
	return at(wild(r, s.Port), wild(r, s.Day), wild(r, s.Wind), wild(r, s.Water))
}

// wildList returns a list with some numbers that are out of all ranges.
func wildList(r *rand.Rand, list []int) []int {
	var all []int
	for _, n := range list {
		all = append(all, wild(r, n))
	}
	return wildLength(r, all)
}

// wildLength returns a list, or a longer or a shorter one.
func wildLength[T any](r *rand.Rand, list []T) []T {
	switch r.Intn(100) {
	case 0:
		return slices.Repeat(list, anyOf(r, 2, 70))
	case 1:
		return list[:len(list)/2]
	case 2:
		return nil
	}
	return list
}

// wildChart returns a chart, be it as defined or not.
func wildChart(r *rand.Rand, c api.VoyageChart) api.VoyageChart {
	c = copied(c)
	c.Next = wildList(r, c.Next)
	for i, p := range c.Ports {
		c.Ports[i].First, c.Ports[i].Last, c.Ports[i].Catch = wild(r, p.First), wild(r, p.Last), wild(r, p.Catch)
	}
	for i, p := range c.Passages {
		c.Passages[i] = api.VoyagePassage{From: wild(r, p.From), To: wild(r, p.To), Days: wildList(r, p.Days)}
	}
	c.Ports, c.Passages = wildLength(r, c.Ports), wildLength(r, c.Passages)
	c.Cask, c.End = wild(r, c.Cask), wild(r, c.End)
	return c
}

// anything returns arguments, be they as defined or not.
func anything(r *rand.Rand) given {
	c := anyChart(r, r.Intn(9), 4)
	s := anyState(r, c)
	winds := voyages(c, s)
	o := proposal(c, s, anyAct(r))
	if best, e := voyage.Orders(c, s); e == api.OK {
		o = best
	}
	for i := range o {
		o[i] = order(wildState(r, o[i].State), wild(r, o[i].Act))
	}
	return given{
		chart: wildChart(r, c), state: wildState(r, s), orders: wildLength(r, o), winds: wildList(r, winds[r.Intn(len(winds))]),
		wind: wild(r, r.Intn(len(c.Next))), days: wild(r, r.Intn(21)), port: wild(r, anyOf(r, 1, len(c.Ports)-1)), water: wild(r, anyOf(r, 0, c.Cask)), passage: wild(r, r.Intn(4)),
		text: checked("orders 1\non " + string([]byte{byte(47 + r.Intn(12))}) + " at 2 wind 0 water " + string([]byte{byte(49 + r.Intn(10))}) + " stay\n"),
	}
}

// P0.1, R2, R8: for all arguments, the functions end and do not panic, say the same again, and nothing but an error where there is one
func TestAnyValue(t *testing.T) {
	r := source(12)
	met := map[any]int{}
	for range 4000 {
		g := anything(r)
		a := asked(g)
		if b := asked(g); !equal(a, b) {
			t.Fatal(g, a, b)
		}
		for i, result := range a {
			last := len(result) - 1
			met[result[last]]++
			if result[last] != api.OK && slices.ContainsFunc(result[:last], func(x any) bool { return !isZero(x) }) {
				t.Fatal(g, i, result)
			}
			if result[last] == api.OK {
				met[i]++
			}
		}
	}
	wantAll(t, met, any(api.OK), any(api.ErrArg), any(api.ErrText), any(api.ErrNone), any(api.ErrRule))
	for i := range functions {
		wantAll(t, met, any(i))
	}
}

// P0.1: nothing but wild numbers
func TestWildest(t *testing.T) {
	for _, n := range l(least, least+1, -1, 0, 1, 2, 7, 8, 63, 64, 65, 1<<31, 1<<32, most-1, most) {
		for many := range 10 {
			some := slices.Repeat(l(n), many)
			c := api.VoyageChart{Next: some, Ports: slices.Repeat([]api.VoyagePort{{First: n, Last: n, Fresh: true, Catch: n}}, many), Passages: slices.Repeat([]api.VoyagePassage{{From: n, To: n, Days: some}}, many), Cask: n, End: n}
			o := slices.Repeat(orders(order(at(n, n, n, n), n)), many)
			for _, chart := range []api.VoyageChart{c, chartC()} {
				asked(given{chart: chart, state: at(n, n, n, n), wind: n, days: n, port: n, water: n, passage: n, orders: o, winds: some})
				asked(given{chart: chart, state: stateS(), wind: n, days: n, port: 1, water: 1, passage: n, orders: o, winds: some})
				asked(given{chart: chart, state: at(n, n, n, n), orders: ordersS(), winds: some})
			}
		}
	}
}

// R3: nil and empty lists are the same
func TestNilAndEmpty(t *testing.T) {
	a, b := roomy(), roomy()
	a.chart.Passages, a.orders, a.winds = nil, nil, nil
	b.chart.Passages, b.orders, b.winds = []api.VoyagePassage{}, []api.VoyageOrder{}, l()
	if v, w := asked(a), asked(b); !equal(v, w) {
		t.Error(v, w)
	}
	a.chart.Next, a.chart.Ports = nil, nil
	b.chart.Next, b.chart.Ports = l(), []api.VoyagePort{}
	if v, w := asked(a), asked(b); !equal(v, w) {
		t.Error(v, w)
	}
}

// fill returns a list that has room for more, which is filled with copies of the first thing.
func fill[T any](list []T) []T {
	all := slices.Concat(list, slices.Repeat(list[:1], 4))
	return all[:len(list)]
}

// roomy returns arguments of lists that have room for more, for which all functions have results.
func roomy() given {
	c := chartC()
	for i := range c.Passages {
		c.Passages[i].Days = fill(c.Passages[i].Days)
	}
	c.Next, c.Ports, c.Passages = fill(c.Next), fill(c.Ports), fill(c.Passages)
	return given{
		chart: c, state: stateS(), wind: 1, days: 2, port: 1, water: 1, passage: 1,
		orders: fill(ordersS()), winds: fill(l(0, 1, 0, 0, 1, 0, 1, 0)), text: textT,
	}
}

// room returns all lists of arguments with what is behind their ends.
func room(g given) []any {
	c := g.chart
	all := []any{c.Next[:len(c.Next)+4], c.Ports[:len(c.Ports)+4], c.Passages[:len(c.Passages)+4], g.orders[:len(g.orders)+4], g.winds[:len(g.winds)+4]}
	for _, p := range c.Passages {
		all = append(all, p.Days[:len(p.Days)+4])
	}
	return all
}

// R4: no argument is changed, also beyond the end of a list
func TestArguments(t *testing.T) {
	g := roomy()
	for i, r := range asked(g) {
		if e := r[len(r)-1]; e != api.OK {
			t.Error(i, r)
		}
	}
	if !equal(room(g), room(roomy())) {
		t.Error(g)
	}
}

// R4: lists of a result share no memory with those of another call, nor with arguments
func TestResults(t *testing.T) {
	g := roomy()
	var numbers [][]int
	var lists [][]api.VoyageOrder
	for range 2 {
		for _, r := range asked(g) {
			switch x := r[0].(type) {
			case []int:
				numbers = append(numbers, append(x, 99))
			case []api.VoyageOrder:
				lists = append(lists, append(x, order(at(99, 99, 99, 99), 99)))
			}
		}
	}
	if len(numbers) != 2*3 || len(lists) != 2*2 {
		t.Error(len(numbers), len(lists))
	}
	for i := range numbers {
		for k := range numbers[i] {
			numbers[i][k] = i
		}
	}
	for i := range lists {
		for k := range lists[i] {
			lists[i][k].Act = i
		}
	}
	for i := range numbers {
		if slices.ContainsFunc(numbers[i], func(n int) bool { return n != i }) {
			t.Error(numbers)
		}
	}
	for i := range lists {
		if slices.ContainsFunc(lists[i], func(o api.VoyageOrder) bool { return o.Act != i }) {
			t.Error(lists)
		}
	}
	if !equal(room(g), room(roomy())) || !equal(asked(g), asked(roomy())) {
		t.Error(g)
	}
}
