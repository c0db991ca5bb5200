package voyage_test

import (
	"slices"
	"testing"

	"bathyal/api"
	"bathyal/voyage"
)

// P7.1
func TestCheck(t *testing.T) {
	far := api.VoyagePort{First: api.VoyageDays, Last: api.VoyageDays, Fresh: true, Catch: api.VoyageCatch}
	long := api.VoyagePassage{From: 3, To: 2, Days: slices.Repeat(l(api.VoyageLong), api.VoyageWinds)}
	for i, c := range []api.VoyageChart{
		chartC(), chartLong(), {Next: l(1), Ports: make([]api.VoyagePort, 2), Cask: 1},
		{Next: l(7, 1, 4), Ports: []api.VoyagePort{far, far, far, far}, Passages: slices.Repeat([]api.VoyagePassage{long}, api.VoyagePassages), Cask: api.VoyageCask, End: api.VoyageDays},
		with(func(c *api.VoyageChart) { c.Passages[0].From, c.Passages[0].To = 0, 2 }), with(func(c *api.VoyageChart) { c.Passages[0].Days = l(0, 0) }),
		with(func(c *api.VoyageChart) { c.Passages = nil }), with(func(c *api.VoyageChart) { c.Passages = []api.VoyagePassage{} }),
		// what home has does not matter
		with(func(c *api.VoyageChart) { c.Ports[0] = api.VoyagePort{First: 7, Last: 3} }), with(func(c *api.VoyageChart) { c.Ports[0] = api.VoyagePort{First: least, Last: most, Catch: least} }),
	} {
		if e := voyage.Check(c); e != api.OK {
			t.Error(i, e)
		}
	}
	for i, c := range badCharts() {
		if e := voyage.Check(c); e != api.ErrArg {
			t.Error(i, c, e)
		}
	}
}

// P7.1 to P7.7: with a chart that is not as defined, all functions return ErrArg
func TestBadCharts(t *testing.T) {
	for _, c := range badCharts() {
		g := roomy()
		g.chart = c
		for i, x := range asked(g)[:ofCharts] {
			if x[len(x)-1] != api.ErrArg || slices.ContainsFunc(x[:len(x)-1], func(x any) bool { return !isZero(x) }) {
				t.Error(c, i, x)
			}
		}
	}
}

// P7.1
func TestWinds(t *testing.T) {
	around := api.VoyageChart{Next: l(2, 4, 1), Ports: make([]api.VoyagePort, 2), Cask: 1}
	for i, x := range []struct {
		chart      api.VoyageChart
		wind, days int
		want       []int
	}{
		{chartC(), 1, 1, l(0)}, {chartC(), 1, 2, l(0, 1)}, {chartC(), 0, 0, l(0)}, {chartC(), 1, 0, l(1)}, {chartC(), 0, 1, l(0, 1)}, {chartC(), 1, 20, l(0, 1)},
		{around, 0, 0, l(0)}, {around, 0, 1, l(1)}, {around, 0, 2, l(2)}, {around, 0, 3, l(0)}, {around, 2, 1, l(0)}, {around, 1, 20, l(0)}, {around, 2, 19, l(0)},
	} {
		if w, e := voyage.Winds(x.chart, x.wind, x.days); e != api.OK || !equal(w, x.want) {
			t.Error(i, w, e)
		}
	}
	for _, n := range badNumbers(0, 1) {
		if w, e := voyage.Winds(chartC(), n, 1); e != api.ErrArg || len(w) > 0 {
			t.Error(n, w, e)
		}
	}
	for _, n := range badNumbers(0, api.VoyageDays) {
		if w, e := voyage.Winds(chartC(), 0, n); e != api.ErrArg || len(w) > 0 {
			t.Error(n, w, e)
		}
	}
}

// P7.1: the winds that are returned are those that can blow at the ends of all voyages; the End does not matter
func TestWindsOfAny(t *testing.T) {
	r := source(1)
	met := map[int]int{}
	for range 500 {
		days := r.Intn(7)
		c := anyChart(r, days, 2)
		wind := r.Intn(len(c.Next))
		var want []int
		for _, winds := range voyages(c, at(1, 0, wind, 0)) {
			want = append(want, winds[days])
		}
		slices.Sort(want)
		want = slices.Compact(want)
		c.End = r.Intn(api.VoyageDays + 1)
		w, e := voyage.Winds(c, wind, days)
		if e != api.OK || !equal(w, want) {
			t.Fatal(c, wind, days, w, e, want)
		}
		met[len(w)]++
	}
	wantAll(t, met, 1, 2, 3)
}
