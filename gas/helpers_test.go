package gas_test

import (
	"iter"
	"math"
	"math/rand"
	"reflect"
	"slices"
	"testing"

	"bathyal/api"
)

func sp(low, high int) api.Span { return api.Span{Low: low, High: high} }

func one(n int) api.Span { return sp(n, n) }

func l(n ...int) []int { return n }

func spans(s ...api.Span) []api.Span { return s }

// tableT returns the table t of the chapter.
func tableT() api.GasTable {
	return api.GasTable{Parts: []api.GasPart{{Limit: 1600, Slope: 200}, {Limit: 1300, Slope: 150}}, Stops: l(2, 4)}
}

// tableWith returns the table t with a change.
func tableWith(change func(*api.GasTable)) api.GasTable {
	t := tableT()
	change(&t)
	return t
}

// shut returns a table that nobody keeps, not even at the surface.
func shut() api.GasTable {
	return tableWith(func(t *api.GasTable) { t.Parts[0].Limit = api.GasAir - 1 })
}

// manM and manN return the men m and n of the chapter.
func manM() api.GasMan { return api.GasMan{Rates: spans(one(100), sp(20, 25))} }

func manN() api.GasMan { return api.GasMan{Rates: spans(one(80), one(20))} }

func at(depth, minutes api.Span) api.GasStage { return api.GasStage{Depth: depth, Minutes: minutes} }

func dive(stages ...api.GasStage) []api.GasStage { return stages }

// just returns a dive of one stage of just a depth and just some minutes.
func just(depth, minutes int) []api.GasStage { return dive(at(one(depth), one(minutes))) }

// diveV, diveU and diveW return the dives v, u and w of the chapter.
func diveV() []api.GasStage { return just(10, 3) }

func diveU() []api.GasStage { return just(10, 8) }

func diveW() []api.GasStage { return dive(at(sp(9, 10), sp(3, 4))) }

// resting returns a dive of some stages of no minutes at the surface.
func resting(stages int) []api.GasStage { return make([]api.GasStage, stages) }

// and returns two dives as one.
func and(dive []api.GasStage, more ...api.GasStage) []api.GasStage { return slices.Concat(dive, more) }

func stop(depth, minutes int) api.GasStop { return api.GasStop{Depth: depth, Minutes: minutes} }

// badTables returns tables that are not as defined.
func badTables() []api.GasTable {
	all := []api.GasTable{{}}
	for _, change := range []func(*api.GasTable){
		func(t *api.GasTable) { t.Parts = nil },
		func(t *api.GasTable) { t.Parts = make([]api.GasPart, api.GasParts+1) },
		func(t *api.GasTable) { t.Parts[0].Limit = -1 },
		func(t *api.GasTable) { t.Parts[1].Limit = api.GasLimit + 1 },
		func(t *api.GasTable) { t.Parts[0].Slope = -1 },
		func(t *api.GasTable) { t.Parts[1].Slope = api.GasSlope + 1 },
		func(t *api.GasTable) { t.Stops = l(0) },
		func(t *api.GasTable) { t.Stops = l(-1, 2) },
		func(t *api.GasTable) { t.Stops = l(2, api.GasDepth+1) },
		func(t *api.GasTable) { t.Stops = l(3, 3) },
		func(t *api.GasTable) { t.Stops = l(4, 2) },
		func(t *api.GasTable) { t.Stops = l(1, 2, 3, 4, 5) },
	} {
		all = append(all, tableWith(change))
	}
	return all
}

// badMen returns men that are not as defined for the table t.
func badMen() []api.GasMan {
	man := func(s ...api.Span) api.GasMan { return api.GasMan{Rates: s} }
	return []api.GasMan{
		{}, man(one(100)), man(one(100), one(20), one(20)),
		man(one(0), one(20)), man(sp(0, 1), one(20)), man(one(-1), one(20)), man(one(100), sp(25, 20)),
		man(one(100), one(api.GasRate+1)), man(one(100), sp(api.GasRate, api.GasRate+1)), man(one(100), sp(20, 20+api.GasRates+1)),
	}
}

// badDepths and badTimes return spans that are not as defined for a stage.
func badDepths() []api.Span {
	return spans(one(-1), sp(-1, 0), one(api.GasDepth+1), sp(api.GasDepth, api.GasDepth+1), sp(2, 1), sp(0, api.GasWide+1), sp(math.MinInt, math.MaxInt))
}

func badTimes() []api.Span {
	return spans(one(-1), sp(-1, 0), one(api.GasMinutes+1), sp(api.GasMinutes, api.GasMinutes+1), sp(2, 1), sp(0, api.GasWide+1), sp(math.MinInt, math.MaxInt))
}

// badDives returns dives that are not as defined.
func badDives() [][]api.GasStage {
	all := [][]api.GasStage{resting(api.GasStages + 1)}
	for _, s := range badDepths() {
		all = append(all, dive(at(s, one(1))), and(diveV(), at(s, one(1))))
	}
	for _, s := range badTimes() {
		all = append(all, dive(at(one(1), s)), and(diveV(), at(one(1), s)))
	}
	return all
}

// source returns numbers that are the same in each run.
func source(seed int64) *rand.Rand { return rand.New(rand.NewSource(seed)) }

// span returns a span from low to high, which is at most so wide.
func span(r *rand.Rand, low, high, wide int) api.Span {
	from := low + r.Intn(high-low+1)
	return sp(from, min(high, from+r.Intn(wide+1)))
}

// anyTable returns a table of some compartments, which short dives keep or do not keep.
func anyTable(r *rand.Rand, parts int) api.GasTable {
	var t api.GasTable
	for range parts {
		t.Parts = append(t.Parts, api.GasPart{Limit: 1000 + r.Intn(1500), Slope: r.Intn(api.GasSlope + 1)})
	}
	for depth := range 12 {
		if r.Intn(4) == 0 && len(t.Stops) < api.GasStops {
			t.Stops = append(t.Stops, depth+1)
		}
	}
	return t
}

// anyMan returns a man whose rates are at most so wide.
func anyMan(r *rand.Rand, parts, wide int) api.GasMan {
	var m api.GasMan
	for range parts {
		m.Rates = append(m.Rates, span(r, 1, 10+r.Intn(api.GasRate-9), wide))
	}
	return m
}

// anyDive returns a dive of at most some stages, of which depths and minutes are at most so wide.
func anyDive(r *rand.Rand, stages, wide int) []api.GasStage {
	var all []api.GasStage
	for range r.Intn(stages + 1) {
		all = append(all, at(span(r, 0, 1+r.Intn(api.GasDepth), wide), span(r, 0, 1+r.Intn(25), wide)))
	}
	return all
}

// products yields all lists of numbers, one of each span.
func products(s []api.Span) iter.Seq[[]int] {
	return func(yield func([]int) bool) {
		var fill func(so []int) bool
		fill = func(so []int) bool {
			if len(so) == len(s) {
				return yield(so)
			}
			for n := s[len(so)].Low; n <= s[len(so)].High; n++ {
				if !fill(append(so, n)) {
					return false
				}
			}
			return true
		}
		fill(make([]int, 0, len(s)))
	}
}

// truths yields all that can be true of a man and a dive.
func truths(m api.GasMan, dive []api.GasStage) iter.Seq[api.GasTruth] {
	all := slices.Clone(m.Rates)
	for _, s := range dive {
		all = append(all, s.Depth)
	}
	for _, s := range dive {
		all = append(all, s.Minutes)
	}
	return func(yield func(api.GasTruth) bool) {
		for n := range products(all) {
			depths := len(m.Rates)
			minutes := depths + len(dive)
			if !yield(api.GasTruth{Rates: n[:depths], Depths: n[depths:minutes], Minutes: n[minutes:]}) {
				return
			}
		}
	}
}

// breathed returns what is held after some minutes, by the definition.
func breathed(held, rate, depth, minutes int) int {
	for range minutes {
		change := float64((1000+180*depth-held)*rate) / 1000
		held += int(math.Floor(change))
	}
	return held
}

// played returns what is held at each moment of a truth, by the definition.
func played(x api.GasTruth) [][]int {
	all := [][]int{slices.Repeat(l(1000), len(x.Rates))}
	for i := range x.Depths {
		var next []int
		for part, rate := range x.Rates {
			next = append(next, breathed(all[i][part], rate, x.Depths[i], x.Minutes[i]))
		}
		all = append(all, next)
	}
	return all
}

// excess returns the first moment and compartment at which a truth is not within the limits, or -1, by the definition.
func excess(t api.GasTable, x api.GasTruth) (int, int) {
	for moment, held := range played(x) {
		depth := 0
		if moment < len(x.Depths) {
			depth = x.Depths[moment]
		}
		for part, p := range t.Parts {
			if held[part] > p.Limit+p.Slope*depth {
				return moment, part
			}
		}
	}
	return -1, -1
}

// keeps reports whether a dive keeps the limits in all truths, be it longer than dives may be or not.
func keeps(t api.GasTable, m api.GasMan, dive []api.GasStage) bool {
	for x := range truths(m, dive) {
		if moment, _ := excess(t, x); moment >= 0 {
			return false
		}
	}
	return true
}

// equal compares values of any type; nil and empty lists are the same.
func equal(a, b any) bool {
	x, y := reflect.ValueOf(a), reflect.ValueOf(b)
	if x.Kind() == reflect.Slice && x.Len() == 0 && y.Len() == 0 {
		return true
	}
	return reflect.DeepEqual(a, b)
}

// wantAll fails if some kind of case was never met, so that a test does not pass for nothing.
func wantAll(t *testing.T, met map[string]int, kinds ...string) {
	t.Helper()
	for _, kind := range kinds {
		if met[kind] < 5 {
			t.Errorf("only %d cases: %s", met[kind], kind)
		}
	}
}
