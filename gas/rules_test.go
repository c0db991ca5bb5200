package gas_test

import (
	"math"
	"math/rand"
	"slices"
	"testing"

	"bathyal/api"
	"bathyal/gas"
)

// closer returns a span within another one.
func closer(r *rand.Rand, s api.Span) api.Span {
	from := s.Low + r.Intn(s.High-s.Low+1)
	return sp(from, from+r.Intn(s.High-from+1))
}

// P2.11, P0.2: what is known better, and greater limits, never make a dive unsure that was sure, nor a stop longer
func TestConsequences(t *testing.T) {
	r := source(13)
	met := map[string]int{}
	for range 3000 {
		parts := 1 + r.Intn(api.GasParts)
		table, m, x := anyTable(r, parts), anyMan(r, parts, api.GasRates), anyDive(r, api.GasStages-1, api.GasWide)
		better, known, closely := table, api.GasMan{}, []api.GasStage(nil)
		better.Parts = slices.Clone(table.Parts)
		if r.Intn(2) == 0 {
			for part := range better.Parts {
				better.Parts[part].Limit += r.Intn(200)
				better.Parts[part].Slope = min(api.GasSlope, better.Parts[part].Slope+r.Intn(20))
			}
		}
		for _, s := range m.Rates {
			known.Rates = append(known.Rates, closer(r, s))
		}
		for _, s := range x {
			closely = append(closely, at(closer(r, s.Depth), closer(r, s.Minutes)))
		}
		if sure(t, table, m)(x) {
			met["sure"]++
			if !sure(t, better, known)(closely) {
				t.Fatal(table, m, x, better, known, closely)
			}
		}
		was, e := gas.Stop(table, m, x)
		now, f := gas.Stop(better, known, closely)
		if e == api.OK && (f != api.OK || now.Minutes > was.Minutes) {
			t.Fatal(table, m, x, was, e, better, known, closely, now, f)
		}
		if e == api.OK && now.Minutes < was.Minutes {
			met["shorter"]++
		}
	}
	wantAll(t, met, "sure", "shorter")
}

// results is the results of a call, of which the last one is its error.
type results []any

// asked returns the results of all functions that have a table, a man and a dive.
func asked(t api.GasTable, m api.GasMan, dive []api.GasStage, x api.GasTruth, s api.Span) []results {
	var all []results
	add := func(r ...any) { all = append(all, r) }
	with := func(r any, e api.Errno) { add(r, e) }
	is, e := gas.Fits(t, m, dive, x)
	with(is, e)
	run, e := gas.Run(t, m, dive, x)
	with(run, e)
	known, e := gas.Known(t, m, dive)
	with(known, e)
	is, e = gas.Surely(t, m, dive)
	with(is, e)
	moment, part, e := gas.Worst(t, m, dive)
	add(moment, part, e)
	crew, e := gas.Crew(t, []api.GasMan{m}, dive)
	with(crew, e)
	wait, e := gas.Wait(t, m, dive, nil)
	with(wait, e)
	best, e := gas.Stop(t, m, dive)
	with(best, e)
	minutes, last, e := gas.Moment(t, m, dive, s)
	add(minutes, last, e)
	chamber, e := gas.Chamber(t, m, dive, s)
	with(chamber, e)
	return all
}

// R2, P2.3 to P2.9: a table, a man or a dive that is not as defined is ErrArg, and has no other result
func TestNotAsDefined(t *testing.T) {
	check := func(table api.GasTable, m api.GasMan, dive []api.GasStage, x api.GasTruth) {
		t.Helper()
		for i, r := range asked(table, m, dive, x, one(0)) {
			last := len(r) - 1
			for _, result := range r[:last] {
				if !equal(result, zero(result)) {
					t.Error(table, m, dive, i, r)
				}
			}
			if r[last] != api.ErrArg {
				t.Error(table, m, dive, i, r)
			}
		}
	}
	for _, table := range badTables() {
		check(table, manM(), nil, api.GasTruth{Rates: l(100, 20)})
		if n, e := gas.Limit(table, manM(), one(1)); e != api.ErrArg || n != 0 {
			t.Error(table, n, e)
		}
		if crew, e := gas.Crew(table, nil, nil); e != api.ErrArg || len(crew) != 0 {
			t.Error(table, crew, e)
		}
	}
	for _, m := range badMen() {
		check(tableT(), m, nil, api.GasTruth{Rates: l(100, 20)})
		if n, e := gas.Limit(tableT(), m, one(1)); e != api.ErrArg || n != 0 {
			t.Error(m, n, e)
		}
	}
	for _, x := range badDives() {
		truth := api.GasTruth{Rates: l(100, 20)}
		for _, s := range x {
			truth.Depths, truth.Minutes = append(truth.Depths, s.Depth.Low), append(truth.Minutes, s.Minutes.Low)
		}
		check(tableT(), manM(), x, truth)
	}
	// rates may differ by so much, and no more
	wide := api.GasMan{Rates: spans(sp(100, 100+api.GasRates), sp(api.GasRate-api.GasRates, api.GasRate))}
	if _, e := gas.Surely(tableT(), wide, dive(at(sp(34, 40), sp(114, 120)))); e != api.OK {
		t.Error(e)
	}
}

// zero returns what a result is together with an error.
func zero(result any) any {
	switch result.(type) {
	case bool:
		return false
	case int:
		return 0
	case []int:
		return []int(nil)
	case [][]int:
		return [][]int(nil)
	case [][]api.Span:
		return [][]api.Span(nil)
	}
	return api.GasStop{}
}

// anyInt returns a number, be it in range or not.
func anyInt(r *rand.Rand) int {
	all := []int{math.MinInt, math.MinInt + 1, -1, 40, 41, 60, 120, 121, 240, 400, 401, 1260, 20000, math.MaxInt - 1, math.MaxInt}
	if r.Intn(20) > 0 {
		return r.Intn(6)
	}
	return all[r.Intn(len(all))]
}

func anySpan(r *rand.Rand) api.Span {
	if r.Intn(4) > 0 {
		return one(anyInt(r))
	}
	return sp(anyInt(r), anyInt(r))
}

// anything returns arguments, be they as defined or not.
func anything(r *rand.Rand) (api.GasTable, api.GasMan, []api.GasStage, api.GasTruth) {
	var t api.GasTable
	var m api.GasMan
	var x []api.GasStage
	var truth api.GasTruth
	for range 1 + r.Intn(2) {
		t.Parts = append(t.Parts, api.GasPart{Limit: 1000 + anyInt(r), Slope: anyInt(r)})
		m.Rates = append(m.Rates, anySpan(r))
		truth.Rates = append(truth.Rates, anyInt(r))
	}
	if r.Intn(4) > 0 {
		t.Stops = l(anyInt(r))
	}
	for range r.Intn(4) {
		x = append(x, at(anySpan(r), anySpan(r)))
		truth.Depths, truth.Minutes = append(truth.Depths, anyInt(r)), append(truth.Minutes, anyInt(r))
	}
	return t, m, x, truth
}

// others returns the results of all other functions.
func others(t api.GasTable, m api.GasMan, dive []api.GasStage, list []api.GasSounding, c api.GasClock, s api.Span, text string) []results {
	var all []results
	add := func(r ...any) { all = append(all, r) }
	with := func(r any, e api.Errno) { add(r, e) }
	add(gas.Check(t))
	depth, e := gas.Depth(list)
	with(depth, e)
	time, e := gas.Minutes(c)
	with(time, e)
	held, e := gas.Load(c.Turns, s.Low, s.High, c.Watch.Low)
	with(held, e)
	limit, e := gas.Limit(t, m, s)
	with(limit, e)
	crew, e := gas.Crew(t, []api.GasMan{m, m}, dive)
	with(crew, e)
	wait, e := gas.Wait(t, m, dive, dive)
	with(wait, e)
	printed, e := gas.Print(dive)
	with(printed, e)
	read, e := gas.Read(text)
	with(read, e)
	return all
}

// P0.1: for all arguments, the functions end and do not panic, and say the same again
func TestAnyValue(t *testing.T) {
	r := source(14)
	errors := map[any]int{}
	for range 10000 {
		table, m, x, truth := anything(r)
		s, c := anySpan(r), api.GasClock{Turns: anyInt(r), Glass: anySpan(r), Watch: anySpan(r)}
		var list []api.GasSounding
		for range r.Intn(6) {
			list = append(list, api.GasSounding{Read: anyInt(r), Stretch: anySpan(r), Off: anyInt(r)})
		}
		text := "dive 1\nstage " + string([]byte{byte(r.Intn(256)), byte(r.Intn(256))}) + "\n"
		all := func() []results {
			return append(asked(table, m, x, truth, s), others(table, m, x, list, c, s, text)...)
		}
		a := all()
		if b := all(); !equal(a, b) {
			t.Fatal(a, b)
		}
		for _, result := range a {
			errors[result[len(result)-1]]++
		}
	}
	for _, e := range []api.Errno{api.OK, api.ErrArg, api.ErrText, api.ErrNone, api.ErrRule} {
		if errors[e] < 5 {
			t.Error(e, errors[e])
		}
	}
}

// R3: nil and empty lists are the same
func TestNilAndEmpty(t *testing.T) {
	a, b := bare(), bare()
	b.Stops = []int{}
	x := api.GasTruth{Rates: l(100, 20)}
	y := api.GasTruth{Rates: l(100, 20), Depths: []int{}, Minutes: []int{}}
	if v, w := asked(a, manM(), nil, x, one(3)), asked(b, manM(), []api.GasStage{}, y, one(3)); !equal(v, w) {
		t.Error(v, w)
	}
	if v, w := others(a, manM(), nil, nil, api.GasClock{}, one(3), ""), others(b, manM(), []api.GasStage{}, []api.GasSounding{}, api.GasClock{}, one(3), ""); !equal(v, w) {
		t.Error(v, w)
	}
	if crew, e := gas.Crew(tableT(), []api.GasMan{}, nil); e != api.OK || len(crew) != 0 {
		t.Error(crew, e)
	}
}

// R4: no argument is changed, also beyond the end of a list
func TestArguments(t *testing.T) {
	arguments := func() (api.GasTable, api.GasMan, []api.GasStage, api.GasTruth, []api.GasSounding) {
		table, m, x := tableT(), manM(), slices.Grow(diveW(), api.GasStages)
		table.Stops = slices.Grow(table.Stops, api.GasStops)
		m.Rates = slices.Grow(m.Rates, api.GasParts)
		return table, m, x, truthW(), []api.GasSounding{sounding(10, 0, 10, 1), sounding(9, 5, 20, 0)}
	}
	table, m, x, truth, list := arguments()
	table2, m2, x2, truth2, list2 := arguments()
	asked(table, m, x, truth, one(3))
	others(table, m, x, list, api.GasClock{Turns: 3, Glass: sp(4, 5), Watch: sp(10, 16)}, one(3), slipW)
	if !equal(table, table2) || !equal(m, m2) || !equal(x, x2) || !equal(truth, truth2) || !equal(list, list2) {
		t.Error(table, m, x, truth, list)
	}
	if !equal(table.Stops[:api.GasStops], table2.Stops[:api.GasStops]) || !equal(m.Rates[:api.GasParts], m2.Rates[:api.GasParts]) || !equal(x[:api.GasStages], x2[:api.GasStages]) {
		t.Error("something was changed beyond the end of a list")
	}
}

// R4: lists of a result share no memory with each other, nor with arguments
func TestResults(t *testing.T) {
	run, _ := gas.Run(tableT(), manM(), resting(1), api.GasTruth{Rates: l(100, 20), Depths: l(0), Minutes: l(0)})
	known, _ := gas.Known(tableT(), manM(), resting(1))
	for moment := range run {
		run[moment] = append(run[moment], 99)
		known[moment] = append(known[moment], one(99))
		for part := range run[moment] {
			run[moment][part], known[moment][part] = moment, one(moment)
		}
	}
	if !equal(run, [][]int{l(0, 0, 0), l(1, 1, 1)}) || !equal(known, [][]api.Span{spans(one(0), one(0), one(0)), spans(one(1), one(1), one(1))}) {
		t.Error(run, known)
	}
}
