package gas_test

import (
	"testing"

	"bathyal/api"
	"bathyal/gas"
)

// bare returns the table t without stops.
func bare() api.GasTable { return tableWith(func(t *api.GasTable) { t.Stops = nil }) }

// P2.6
func TestStop(t *testing.T) {
	// with the rate 1, each minute at 20 fathoms brings 3
	slow := api.GasMan{Rates: spans(one(1))}
	full := api.GasTable{Parts: []api.GasPart{{Limit: 1041}}, Stops: l(1)}
	for i, x := range []struct {
		t    api.GasTable
		m    api.GasMan
		dive []api.GasStage
		want api.GasStop
		e    api.Errno
	}{
		{tableT(), manM(), diveV(), stop(0, 0), api.OK}, {tableT(), manM(), nil, stop(0, 0), api.OK}, {bare(), manM(), diveV(), stop(0, 0), api.OK},
		{tableT(), manM(), diveW(), stop(2, 1), api.OK}, {tableT(), manM(), just(10, 5), stop(2, 5), api.OK}, {tableT(), manM(), just(10, 7), stop(2, 9), api.OK},
		// too much for 2 fathoms, and at 4 fathoms it never comes down
		{tableT(), manM(), diveU(), stop(0, 0), api.ErrNone},
		{bare(), manM(), diveW(), stop(0, 0), api.ErrNone},
		// of several with the fewest minutes the one with the least depth, which need not be the first that is allowed
		{tableWith(func(t *api.GasTable) { t.Stops = l(1, 2, 3) }), manM(), diveW(), stop(1, 1), api.OK},
		{tableWith(func(t *api.GasTable) { t.Stops = l(1, 2, 3) }), manM(), just(10, 7), stop(2, 9), api.OK},
		// 1039 and 1042 are held: at 1 fathom the pressure is greater, and nothing goes out
		{full, slow, just(20, 13), stop(0, 0), api.OK}, {full, slow, just(20, 14), stop(0, 0), api.ErrNone},
		// too much before the stop, whatever stop comes then
		{tableT(), manM(), and(diveU(), at(one(1), one(1))), stop(0, 0), api.ErrNone},
		{shut(), manM(), nil, stop(0, 0), api.ErrNone},
		{tableT(), manM(), resting(api.GasStages - 1), stop(0, 0), api.OK}, {tableT(), manM(), resting(api.GasStages), stop(0, 0), api.ErrArg},
	} {
		if got, e := gas.Stop(x.t, x.m, x.dive); e != x.e || got != x.want {
			t.Error(i, got, e)
		}
	}
}

// P2.6: a stop may have as many minutes as is said, and no more
func TestStopOfLongest(t *testing.T) {
	// 1300 are held after the dive; at 1 fathom, where the pressure is 1180, each minute takes 1
	slow := api.GasMan{Rates: spans(one(1))}
	for i, x := range []struct {
		limit int
		want  api.GasStop
		e     api.Errno
	}{{1300, stop(0, 0), api.OK}, {1299, stop(1, 1), api.OK}, {1300 - api.GasLongest, stop(1, api.GasLongest), api.OK}, {1300 - api.GasLongest - 1, stop(0, 0), api.ErrNone}} {
		table := api.GasTable{Parts: []api.GasPart{{Limit: x.limit, Slope: 100}}, Stops: l(1)}
		if got, e := gas.Stop(table, slow, just(20, 100)); e != x.e || got != x.want {
			t.Error(i, got, e)
		}
	}
}

// bestStop returns the best stop after a dive, and whether there is one, by the definition.
func bestStop(t api.GasTable, m api.GasMan, dive []api.GasStage, surely func([]api.GasStage) bool) (api.GasStop, bool) {
	if surely(dive) {
		return api.GasStop{}, true
	}
	for minutes := 1; minutes <= api.GasLongest; minutes++ {
		for _, depth := range t.Stops {
			if surely(and(dive, just(depth, minutes)...)) {
				return stop(depth, minutes), true
			}
		}
	}
	return api.GasStop{}, false
}

// sure returns the program's Surely, which other tests hold against all truths.
func sure(t *testing.T, table api.GasTable, m api.GasMan) func([]api.GasStage) bool {
	return func(dive []api.GasStage) bool {
		is, e := gas.Surely(table, m, dive)
		if e != api.OK {
			t.Fatal(table, m, dive, e)
		}
		return is
	}
}

// P2.6, P0.2: no stop with which the limits are surely kept takes fewer minutes
func TestStopIsBest(t *testing.T) {
	r := source(8)
	met := map[string]int{}
	check := func(table api.GasTable, m api.GasMan, dive []api.GasStage, surely func([]api.GasStage) bool) {
		want, some := bestStop(table, m, dive, surely)
		e, kind := api.OK, "stop"
		if !some {
			e, kind = api.ErrNone, "no stop helps"
		} else if want.Minutes == 0 {
			kind = "none"
		} else if want.Depth != table.Stops[0] {
			kind = "deeper stop"
		}
		met[kind]++
		if got, f := gas.Stop(table, m, dive); f != e || got != want {
			t.Fatal(table, m, dive, got, f, want, e)
		}
	}
	for range 1500 {
		parts := 1 + r.Intn(api.GasParts)
		table, m := anyTable(r, parts), anyMan(r, parts, api.GasRates)
		check(table, m, anyDive(r, api.GasStages-1, api.GasWide), sure(t, table, m))
	}
	for range 300 {
		table, m := anyTable(r, 1), anyMan(r, 1, 2)
		check(table, m, anyDive(r, 2, 1), func(dive []api.GasStage) bool { return keeps(table, m, dive) })
	}
	wantAll(t, met, "none", "stop", "deeper stop", "no stop helps")
}

// P2.7
func TestMoment(t *testing.T) {
	for i, x := range []struct {
		t     api.GasTable
		dive  []api.GasStage
		depth api.Span
		n     int
		want  api.GasStop
		e     api.Errno
	}{
		{tableT(), nil, one(10), 7, stop(2, 9), api.OK}, {tableT(), just(0, 5), one(10), 7, stop(2, 9), api.OK}, {tableT(), diveV(), one(10), 4, stop(2, 9), api.OK},
		{tableT(), nil, one(api.GasDepth), 1, stop(2, 4), api.OK},
		{tableT(), nil, one(2), api.GasStay, stop(0, 0), api.OK},
		{bare(), nil, one(10), 3, stop(0, 0), api.OK}, {bare(), diveV(), one(10), 0, stop(0, 0), api.OK}, {bare(), just(10, 4), one(10), 0, stop(0, 0), api.ErrNone},
		{tableT(), diveU(), one(10), 0, stop(0, 0), api.ErrNone}, {shut(), nil, one(10), 0, stop(0, 0), api.ErrNone},
		// the limits need not be kept at the surface before he stays
		{tableT(), just(10, 7), one(10), 0, stop(2, 9), api.OK},
		{tableT(), resting(api.GasStages - 2), one(0), api.GasStay, stop(0, 0), api.OK}, {tableT(), resting(api.GasStages - 1), one(0), 0, stop(0, 0), api.ErrArg},
	} {
		if n, s, e := gas.Moment(x.t, manM(), x.dive, x.depth); e != x.e || n != x.n || s != x.want {
			t.Error(i, n, s, e)
		}
	}
	for i, depth := range badDepths() {
		if n, s, e := gas.Moment(tableT(), manM(), nil, depth); e != api.ErrArg || n != 0 || s != stop(0, 0) {
			t.Error(i, n, s, e)
		}
	}
}

// P2.7, P0.2: up to it there is a best stop, and a minute later there is none
func TestMomentIsLatest(t *testing.T) {
	r := source(9)
	met := map[string]int{}
	for range 500 {
		parts := 1 + r.Intn(api.GasParts)
		table, m := anyTable(r, parts), anyMan(r, parts, api.GasRates)
		before, depth := anyDive(r, api.GasStages-2, api.GasWide), span(r, 0, 1+r.Intn(api.GasDepth), api.GasWide)
		want, last, e, kind := 0, stop(0, 0), api.ErrNone, "never"
		for minutes := range api.GasStay + 1 {
			s, some := bestStop(table, m, and(before, at(depth, one(minutes))), sure(t, table, m))
			if !some {
				break
			}
			want, last, e, kind = minutes, s, api.OK, "without a stop"
		}
		if last.Minutes > 0 {
			kind = "with a stop"
		} else if want == api.GasStay {
			kind = "all"
		}
		met[kind]++
		if n, s, f := gas.Moment(table, m, before, depth); f != e || n != want || s != last {
			t.Fatal(table, m, before, depth, n, s, f, want, last, e)
		}
	}
	wantAll(t, met, "never", "without a stop", "with a stop", "all")
}

// P2.9
func TestChamber(t *testing.T) {
	// with the rate 1, each minute at 20 fathoms brings 3, and each minute at a lesser pressure takes 1
	slow := api.GasMan{Rates: spans(one(1))}
	slack := func(limit int) api.GasTable {
		return api.GasTable{Parts: []api.GasPart{{Limit: limit, Slope: 100}}}
	}
	for i, x := range []struct {
		t     api.GasTable
		m     api.GasMan
		dive  []api.GasStage
		delay api.Span
		want  api.GasStop
		e     api.Errno
	}{
		{tableT(), manM(), diveU(), one(4), stop(1, 2), api.OK}, {tableT(), manM(), diveU(), one(2), stop(0, 0), api.ErrNone}, {tableT(), manM(), diveU(), sp(2, 4), stop(0, 0), api.ErrNone},
		// no need of one: but the best one is asked for
		{tableT(), manM(), diveV(), one(0), stop(1, 1), api.OK}, {tableT(), manM(), nil, one(0), stop(1, 1), api.OK},
		// whatever was before: at 1 fathom, and when he came up
		{tableT(), manM(), and(diveU(), at(one(1), one(4))), one(4), stop(1, 1), api.OK},
		// at 1 fathom the pressure is 1180
		{slack(api.GasAir), slow, nil, one(0), stop(1, 1), api.OK}, {slack(api.GasAir - 1), slow, nil, one(0), stop(0, 0), api.ErrNone},
		{slack(api.GasAir), slow, just(20, 10), one(30), stop(1, 1), api.OK}, {slack(api.GasAir), slow, just(20, 10), one(29), stop(0, 0), api.ErrNone},
		{slack(1300 - api.GasLongest), slow, just(20, 100), one(0), stop(1, api.GasLongest), api.OK}, {slack(1300 - api.GasLongest - 1), slow, just(20, 100), one(0), stop(0, 0), api.ErrNone},
		// a stop may be at any depth, and is not one of the Stops
		{bare(), manM(), diveU(), one(4), stop(1, 2), api.OK},
		{tableT(), manM(), resting(api.GasStages - 2), one(0), stop(1, 1), api.OK}, {tableT(), manM(), resting(api.GasStages - 1), one(0), stop(0, 0), api.ErrArg},
	} {
		if got, e := gas.Chamber(x.t, x.m, x.dive, x.delay); e != x.e || got != x.want {
			t.Error(i, got, e)
		}
	}
	for i, delay := range badTimes() {
		if got, e := gas.Chamber(tableT(), manM(), diveV(), delay); e != api.ErrArg || got != stop(0, 0) {
			t.Error(i, got, e)
		}
	}
}

// helps reports whether a chamber after a dive and a delay helps, by the definition.
func helps(t *testing.T, table api.GasTable, m api.GasMan, before []api.GasStage, chamber api.GasStop) bool {
	known, e := gas.Known(table, m, and(before, just(chamber.Depth, chamber.Minutes)...))
	if e != api.OK {
		t.Fatal(table, m, before, chamber, e)
	}
	for part, p := range table.Parts {
		if known[len(before)][part].High > p.Limit+p.Slope*chamber.Depth || known[len(before)+1][part].High > p.Limit {
			return false
		}
	}
	return true
}

// P2.9: no chamber that helps has a lesser depth, nor this depth and fewer minutes
func TestChamberIsBest(t *testing.T) {
	r := source(10)
	met := map[string]int{}
	for range 200 {
		parts := 1 + r.Intn(2)
		table, m, x := anyTable(r, parts), anyMan(r, parts, api.GasRates), anyDive(r, api.GasStages-2, api.GasWide)
		for part := range table.Parts {
			table.Parts[part].Slope = min(api.GasSlope, 60+table.Parts[part].Slope)
		}
		delay := span(r, 0, r.Intn(9), 2)
		before := and(x, at(one(0), delay))
		want, e, kind := stop(0, 0), api.ErrNone, "none"
	search:
		for depth := 1; depth <= api.GasDepth; depth++ {
			for minutes := 1; minutes <= api.GasLongest; minutes++ {
				if helps(t, table, m, before, stop(depth, minutes)) {
					want, e, kind = stop(depth, minutes), api.OK, "the least"
					break search
				}
			}
		}
		if want.Depth > 1 {
			kind = "deeper"
		} else if want.Minutes > 1 {
			kind = "longer"
		}
		met[kind]++
		if got, f := gas.Chamber(table, m, x, delay); f != e || got != want {
			t.Fatal(table, m, x, delay, got, f, want, e)
		}
	}
	wantAll(t, met, "none", "the least", "deeper", "longer")
}

// P2.9: the deepest chamber of all, as in one at 40 fathoms nothing ever goes out
func TestChamberOfDeepest(t *testing.T) {
	// 8198 are held, and are allowed at 39 fathoms just so; there 8126, 8083, 8057 and 8042 are left
	table := api.GasTable{Parts: []api.GasPart{{Limit: 8042, Slope: 4}}}
	quick := api.GasMan{Rates: spans(one(api.GasRate))}
	if got, e := gas.Chamber(table, quick, just(api.GasDepth, api.GasMinutes), one(0)); e != api.OK || got != stop(39, 4) {
		t.Error(got, e)
	}
}
