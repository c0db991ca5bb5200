package beds_test

import (
	"math"
	"math/rand"
	"testing"

	"bathyal/api"
	"bathyal/beds"
)

// truthG returns a truth of the ground g, with the cuts 0 10 and 13 0.
func truthG() api.BedsTruth {
	return api.BedsTruth{Start: [][]int{l(0, 10, 10, 20), l(0, 10, 10, 20)}, Grown: [][][]int{{l(0, 5, 5), l(5, 5, 5)}, {l(6, 2, 5), l(2, 5, 5)}}}
}

// P1.4
func TestRun(t *testing.T) {
	cuts := [][]int{l(0, 10), l(13, 0)}
	want := [][][]int{{l(0, 5, 10, 25), l(5, 10, 10, 15)}, {l(7, 9, 7, 17), l(3, 7, 10, 20)}}
	if got, e := beds.Run(groundG(), cuts, truthG()); e != api.OK || !equal(got, want) {
		t.Error(got, e)
	}
	// twenty-two are cut at most, be it lawful or not
	one := groundOf(1, 1, bedA())
	most := api.BedsTruth{Start: [][]int{l(0, 12, 10, 22)}, Grown: [][][]int{{l(22, 12, 5)}}}
	if got, e := beds.Run(one, [][]int{l(22)}, most); e != api.OK || !equal(got, [][][]int{{l(0, 22, 17, 5)}}) {
		t.Error(got, e)
	}
	if got, e := beds.Run(one, [][]int{l(23)}, most); e != api.ErrArg || len(got) > 0 {
		t.Error(got, e)
	}
	// more beds than boats are no error
	if got, e := beds.Run(groundG(), [][]int{l(1, 1), l(0, 0)}, api.BedsTruth{Start: truthG().Start, Grown: [][][]int{{l(0, 5, 5), l(0, 5, 5)}, {l(0, 3, 5), l(1, 3, 5)}}}); e != api.OK || !equal(got[1], [][]int{l(1, 2, 8, 29), l(0, 3, 8, 29)}) {
		t.Error(got, e)
	}
}

// P1.4
func TestRunOfNoTruth(t *testing.T) {
	cuts := [][]int{l(0, 10), l(13, 0)}
	for i, change := range []func(*api.BedsTruth){
		func(t *api.BedsTruth) { t.Start = nil },
		func(t *api.BedsTruth) { t.Start = t.Start[:1] },
		func(t *api.BedsTruth) { t.Start = append(t.Start, l(0, 10, 10, 20)) },
		func(t *api.BedsTruth) { t.Start[1] = l(0, 10, 10) },
		func(t *api.BedsTruth) { t.Start[1] = l(0, 10, 10, 20, 0) },
		func(t *api.BedsTruth) { t.Start[0][1] = 9 },
		func(t *api.BedsTruth) { t.Start[0][1] = 13 },
		func(t *api.BedsTruth) { t.Start[1][3] = math.MaxInt },
		func(t *api.BedsTruth) { t.Grown = nil },
		func(t *api.BedsTruth) { t.Grown = t.Grown[:1] },
		func(t *api.BedsTruth) { t.Grown = append(t.Grown, t.Grown[0]) },
		func(t *api.BedsTruth) { t.Grown[1] = t.Grown[1][:1] },
		func(t *api.BedsTruth) { t.Grown[1] = append(t.Grown[1], l(0, 0, 0)) },
		func(t *api.BedsTruth) { t.Grown[1][1] = l(2, 5) },
		func(t *api.BedsTruth) { t.Grown[1][1] = l(2, 5, 5, 0) },
		func(t *api.BedsTruth) { t.Grown[0][0][1] = 4 },
		func(t *api.BedsTruth) { t.Grown[0][0][1] = 11 },
		func(t *api.BedsTruth) { t.Grown[0][1][0] = 4 },
		func(t *api.BedsTruth) { t.Grown[0][1][0] = 11 },
		func(t *api.BedsTruth) { t.Grown[1][0][2] = math.MinInt },
	} {
		x := truthG()
		change(&x)
		if got, e := beds.Run(groundG(), cuts, x); e != api.ErrArg || len(got) > 0 {
			t.Error(i, got, e)
		}
	}
	for i, bad := range [][][]int{nil, {l(0, 10)}, {l(0, 10), l(13)}, {l(0, 10), l(13, 0), l(0, 0)}, {l(0, 10), l(13, -1)}, {l(0, 10), l(26, 0)}, {l(21, 10), l(0, 0)}, {l(0, 10), l(math.MaxInt, 0)}} {
		if got, e := beds.Run(groundG(), bad, truthG()); e != api.ErrArg || len(got) > 0 {
			t.Error(i, got, e)
		}
	}
	for i, g := range badGrounds() {
		if got, e := beds.Run(g, cuts, truthG()); e != api.ErrArg || len(got) > 0 {
			t.Error(i, got, e)
		}
	}
}

// history returns a truth of a ground with cuts: one at an end of all bounds, or any one.
func history(r *rand.Rand, g api.BedsGround, cuts [][]int) api.BedsTruth {
	from := r.Intn(4)
	pick := func(low, high int) int {
		switch from {
		case 0:
			return low
		case 1:
			return high
		}
		return low + r.Intn(high-low+1)
	}
	t := api.BedsTruth{Start: make([][]int, len(g.Beds)), Grown: make([][][]int, g.Years)}
	for bed, b := range g.Beds {
		var x sizes
		for class, s := range b.Start {
			x[class] = pick(s.Low, s.High)
		}
		t.Start[bed] = append([]int(nil), x[:]...)
		for year := range g.Years {
			x[3] -= cuts[year][bed]
			x[0] += cuts[year][bed]
			n := l(0, 0, 0)
			for class := range n {
				n[class] = pick(x[class]*b.Low/100, x[class]*b.High/100)
			}
			for class := range n {
				x[class] -= n[class]
				x[class+1] += n[class]
			}
			t.Grown[year] = append(t.Grown[year], n)
		}
	}
	return t
}

// P1.2, P1.4: with a lawful plan each bed is full before a cut, has enough after it, and is full again in time; all sponges stay
func TestRunOfLawfulPlans(t *testing.T) {
	r := source(6)
	checked := 0
	for range 150 {
		b := largeBed(r)
		b.Within = 1 + r.Intn(3)
		g := groundOf(4, 4, b, largeBed(r), largeBed(r))
		cuts, _, e := beds.Plan(g)
		if e != api.OK {
			t.Fatal(g, e)
		}
		for range 10 {
			x := history(r, g, cuts)
			got, e := beds.Run(g, cuts, x)
			if e != api.OK || len(got) != g.Years {
				t.Fatal(g, cuts, x, got, e)
			}
			for bed := range g.Beds {
				checked += checkBed(t, g, cuts, x, got, bed)
			}
		}
	}
	if checked == 0 {
		t.Error("no cut was checked")
	}
}

// checkBed checks a bed of a run, and returns how often it was cut.
func checkBed(t *testing.T, g api.BedsGround, cuts [][]int, x api.BedsTruth, got [][][]int, bed int) int {
	t.Helper()
	b, had, all, cut, since := g.Beds[bed], x.Start[bed], 0, 0, 0
	for _, n := range had {
		all += n
	}
	for year := range g.Years {
		now := cuts[year][bed]
		since++
		if now > 0 {
			if had[3] < b.Full || had[3]-now < b.Leave {
				t.Fatal(g, cuts, x, got)
			}
			cut++
			since = 1
		}
		had = got[year][bed]
		sum := 0
		for _, n := range had {
			sum += n
		}
		if sum != all || cut > 0 && since == b.Within && had[3] < b.Full {
			t.Fatal(g, cuts, x, got, bed, year)
		}
	}
	return cut
}
