package gas_test

import (
	"math"
	"testing"

	"bathyal/api"
	"bathyal/gas"
)

// P2.2
func TestLoad(t *testing.T) {
	for i, x := range []struct {
		held, rate, depth, minutes, want int
		e                                api.Errno
	}{
		{1000, 100, 10, 4, 1618, api.OK}, {1618, 100, 2, 1, 1592, api.OK},
		{5, 7, api.GasDepth, 0, 5, api.OK}, {1000, api.GasRate, 0, api.GasRest, 1000, api.OK},
		// rounded down: nothing comes in any more, and all goes out
		{1000, 1, 1, api.GasRest, 1000, api.OK}, {1001, 1, 0, 1, 1000, api.OK}, {1003, 1, 0, 2, 1001, api.OK},
		{api.GasLimit, api.GasRate, 0, 1, 12400, api.OK}, {0, api.GasRate, 0, 1, 400, api.OK}, {0, 1, api.GasDepth, 1, 8, api.OK},
		{-1, 1, 0, 0, 0, api.ErrArg}, {api.GasLimit + 1, 1, 0, 0, 0, api.ErrArg},
		{1, 0, 0, 0, 0, api.ErrArg}, {1, api.GasRate + 1, 0, 0, 0, api.ErrArg},
		{1, 1, -1, 0, 0, api.ErrArg}, {1, 1, api.GasDepth + 1, 0, 0, api.ErrArg},
		{1, 1, 0, -1, 0, api.ErrArg}, {1, 1, 0, api.GasRest + 1, 0, api.ErrArg},
		{math.MinInt, 1, 0, 1, 0, api.ErrArg}, {1, math.MaxInt, 0, 1, 0, api.ErrArg}, {1, 1, math.MaxInt, 1, 0, api.ErrArg}, {1, 1, 0, math.MaxInt, 0, api.ErrArg},
	} {
		if n, e := gas.Load(x.held, x.rate, x.depth, x.minutes); e != x.e || n != x.want {
			t.Error(i, n, e)
		}
	}
}

// P2.2: it moves towards the pressure and never passes it; who held more, or was deeper, holds no less afterwards
func TestLoadMoves(t *testing.T) {
	r := source(3)
	load := func(held, rate, depth, minutes int) int {
		n, e := gas.Load(held, rate, depth, minutes)
		if e != api.OK || n != breathed(held, rate, depth, minutes) {
			t.Fatal(held, rate, depth, minutes, n, e)
		}
		return n
	}
	for range 20000 {
		depth, rate, minutes := r.Intn(api.GasDepth+1), 1+r.Intn(api.GasRate), r.Intn(api.GasRest+1)
		pressure := api.GasAir + api.GasFathom*depth
		held := r.Intn(api.GasLimit + 1)
		if r.Intn(2) == 0 {
			held = max(0, pressure+r.Intn(7)-3)
		}
		n, later := load(held, rate, depth, minutes), load(held, rate, depth, min(api.GasRest, minutes+1))
		if held <= pressure && !(held <= n && n <= later && later <= pressure) || held >= pressure && !(pressure <= later && later <= n && n <= held) {
			t.Fatal(held, rate, depth, minutes, n, later)
		}
		if held < api.GasLimit && load(held+1, rate, depth, minutes) < n || depth < api.GasDepth && load(held, rate, depth+1, minutes) < n {
			t.Fatal(held, rate, depth, minutes, n)
		}
	}
}

// truthW returns a truth of the man m and the dive w.
func truthW() api.GasTruth { return api.GasTruth{Rates: l(100, 22), Depths: l(9), Minutes: l(3)} }

// P2.3
func TestFitsAndRun(t *testing.T) {
	for i, x := range []struct {
		change func(*api.GasTruth)
		is     bool
		e, run api.Errno
	}{
		{func(*api.GasTruth) {}, true, api.OK, api.OK},
		{func(x *api.GasTruth) { x.Rates[1], x.Depths[0], x.Minutes[0] = 20, 9, 3 }, true, api.OK, api.OK},
		{func(x *api.GasTruth) { x.Rates[1], x.Depths[0], x.Minutes[0] = 25, 10, 4 }, true, api.OK, api.OK},
		{func(x *api.GasTruth) { x.Rates[0] = 99 }, false, api.OK, api.ErrArg},
		{func(x *api.GasTruth) { x.Rates[1] = 26 }, false, api.OK, api.ErrArg},
		{func(x *api.GasTruth) { x.Rates[1] = math.MinInt }, false, api.OK, api.ErrArg},
		{func(x *api.GasTruth) { x.Depths[0] = 8 }, false, api.OK, api.ErrArg},
		{func(x *api.GasTruth) { x.Depths[0] = 11 }, false, api.OK, api.ErrArg},
		{func(x *api.GasTruth) { x.Minutes[0] = 2 }, false, api.OK, api.ErrArg},
		{func(x *api.GasTruth) { x.Minutes[0] = math.MaxInt }, false, api.OK, api.ErrArg},
		{func(x *api.GasTruth) { x.Rates = nil }, false, api.ErrArg, api.ErrArg},
		{func(x *api.GasTruth) { x.Rates = l(100) }, false, api.ErrArg, api.ErrArg},
		{func(x *api.GasTruth) { x.Rates = l(100, 22, 1) }, false, api.ErrArg, api.ErrArg},
		{func(x *api.GasTruth) { x.Depths = nil }, false, api.ErrArg, api.ErrArg},
		{func(x *api.GasTruth) { x.Depths = l(9, 9) }, false, api.ErrArg, api.ErrArg},
		{func(x *api.GasTruth) { x.Minutes = nil }, false, api.ErrArg, api.ErrArg},
		{func(x *api.GasTruth) { x.Minutes = l(3, 3) }, false, api.ErrArg, api.ErrArg},
		{func(x *api.GasTruth) { x.Rates[1], x.Minutes = 26, l(3, 3) }, false, api.ErrArg, api.ErrArg},
	} {
		truth := truthW()
		x.change(&truth)
		if is, e := gas.Fits(tableT(), manM(), diveW(), truth); e != x.e || is != x.is {
			t.Error(i, is, e)
		}
		run, e := gas.Run(tableT(), manM(), diveW(), truth)
		if e != x.run || e == api.OK && !equal(run, played(truth)) || e != api.OK && len(run) != 0 {
			t.Error(i, run, e)
		}
	}
	run, e := gas.Run(tableT(), manM(), diveW(), truthW())
	if e != api.OK || !equal(run, [][]int{l(1000, 1000), l(1438, 1103)}) {
		t.Error(run, e)
	}
	run, e = gas.Run(tableT(), manM(), nil, api.GasTruth{Rates: l(100, 20)})
	if e != api.OK || !equal(run, [][]int{l(1000, 1000)}) {
		t.Error(run, e)
	}
}

// P2.3: what is held at each moment of dives with several stages
func TestRunOfStages(t *testing.T) {
	r := source(15)
	for range 500 {
		parts := 1 + r.Intn(api.GasParts)
		m, x := anyMan(r, parts, api.GasRates), anyDive(r, api.GasStages, api.GasWide)
		var truth api.GasTruth
		for _, s := range m.Rates {
			truth.Rates = append(truth.Rates, closer(r, s).Low)
		}
		for _, s := range x {
			truth.Depths, truth.Minutes = append(truth.Depths, closer(r, s.Depth).Low), append(truth.Minutes, closer(r, s.Minutes).Low)
		}
		if run, e := gas.Run(anyTable(r, parts), m, x, truth); e != api.OK || !equal(run, played(truth)) {
			t.Fatal(m, x, truth, run, e)
		}
	}
}

// P2.3
func TestKnown(t *testing.T) {
	begin := spans(one(1000), one(1000))
	rest := and(diveV(), at(one(0), one(11)))
	for i, x := range []struct {
		dive []api.GasStage
		want [][]api.Span
	}{
		{nil, [][]api.Span{begin}},
		{resting(api.GasStages), [][]api.Span{begin, begin, begin, begin, begin}},
		{diveV(), [][]api.Span{begin, spans(one(1487), sp(1105, 1130))}},
		{diveW(), [][]api.Span{begin, spans(sp(1438, 1618), sp(1094, 1171))}},
		{rest, [][]api.Span{begin, spans(one(1487), sp(1105, 1130)), spans(one(1150), sp(1081, 1094))}},
	} {
		if got, e := gas.Known(tableT(), manM(), x.dive); e != api.OK || !equal(got, x.want) {
			t.Error(i, got, e)
		}
	}
}

// bounds returns between which bounds lies what is held at each moment, by the definition.
func bounds(m api.GasMan, dive []api.GasStage) [][]api.Span {
	var all [][]api.Span
	for x := range truths(m, dive) {
		for moment, held := range played(x) {
			if moment == len(all) {
				all = append(all, nil)
			}
			for part, n := range held {
				if part == len(all[moment]) {
					all[moment] = append(all[moment], one(n))
				}
				s := all[moment][part]
				all[moment][part] = sp(min(s.Low, n), max(s.High, n))
			}
		}
	}
	return all
}

// P2.3: whatever is true, what is held lies within its bounds, and each end is reached
func TestKnownIsTrue(t *testing.T) {
	r := source(4)
	check := func(parts, stages, rates, wide int) {
		m, x := anyMan(r, parts, rates), anyDive(r, stages, wide)
		if got, e := gas.Known(anyTable(r, parts), m, x); e != api.OK || !equal(got, bounds(m, x)) {
			t.Fatal(m, x, got, e)
		}
	}
	for range 1500 {
		check(1, 1, api.GasRates, api.GasWide)
		check(1+r.Intn(3), 2, 2, 1)
		check(1, 4, 3, 1)
	}
	for range 50 {
		check(1, 2, api.GasRates, api.GasWide)
	}
}

// P2.3: neither the least rate nor the greatest one need be the one with which the most is held
func TestKnownBetweenRates(t *testing.T) {
	const low, high = 13, 25
	m := api.GasMan{Rates: spans(sp(low, high))}
	x := dive(at(one(40), one(30)), at(one(0), one(40)))
	most, where := 0, 0
	for rate := low; rate <= high; rate++ {
		if n := breathed(breathed(1000, rate, 40, 30), rate, 0, 40); n > most {
			most, where = n, rate
		}
	}
	got, e := gas.Known(api.GasTable{Parts: []api.GasPart{{}}}, m, x)
	if where == low || where == high || e != api.OK || got[2][0].High != most {
		t.Error(where, most, got, e)
	}
}
