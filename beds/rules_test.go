package beds_test

import (
	"math"
	"math/rand"
	"slices"
	"testing"

	"bathyal/api"
	"bathyal/beds"
)

// calls returns the results of all functions for some arguments.
func calls(g api.BedsGround, cuts [][]int, x api.BedsTruth, s api.BedsSurvey, w api.BedsWater, list []int, n, m int, text string) []any {
	var b api.BedsBed
	if len(g.Beds) > 0 {
		b = g.Beds[0]
	}
	var all []any
	add := func(results ...any) { all = append(all, results) }
	with := func(result any, e api.Errno) { add(result, e) }
	add(beds.Check(g), beds.Survey(s), beds.Water(w))
	spans, e := beds.Known(b, n)
	with(spans, e)
	is, e := beds.May(b, n)
	with(is, e)
	most, e := beds.Most(b)
	with(most, e)
	is, e = beds.Keeps(g, cuts)
	with(is, e)
	plan, sum, e := beds.Plan(g)
	add(plan, sum, e)
	run, e := beds.Run(g, cuts, x)
	with(run, e)
	is, e = beds.Lies(s, list)
	with(is, e)
	span, e := beds.Count(s, n, m)
	with(span, e)
	layout, e := beds.Layout(s, n, m, n < m)
	with(layout, e)
	from, width, e := beds.Strip(s, n)
	add(from, width, e)
	is, e = beds.Falls(w, list)
	with(is, e)
	days, e := beds.Reach(w)
	with(days, e)
	sick, e := beds.Sick(w, n)
	with(sick, e)
	closed, e := beds.Closed(w, n)
	with(closed, e)
	bed, shut, e := beds.Look(w, n)
	add(bed, shut, e)
	printed, e := beds.Print(g)
	with(printed, e)
	read, e := beds.Read(text)
	with(read, e)
	return all
}

// anyInt returns a number, be it in range or not.
func anyInt(r *rand.Rand) int {
	all := []int{math.MinInt, math.MinInt + 1, -1, 0, 1, 2, 3, 4, 6, 10, 12, 100, 120, 121, 200, 800, math.MaxInt - 1, math.MaxInt}
	if r.Intn(3) > 0 {
		return r.Intn(6)
	}
	return all[r.Intn(len(all))]
}

func anyList(r *rand.Rand) []int {
	var list []int
	for range r.Intn(6) {
		list = append(list, anyInt(r))
	}
	return list
}

func anyLists(r *rand.Rand) [][]int {
	var lists [][]int
	for range r.Intn(5) {
		lists = append(lists, anyList(r))
	}
	return lists
}

// P0.1: for all arguments, the functions end and do not panic, and say the same again
func TestAnyValue(t *testing.T) {
	r := source(14)
	for range 5000 {
		g := api.BedsGround{Boats: anyInt(r), Years: anyInt(r)}
		for range r.Intn(6) {
			b := api.BedsBed{Low: anyInt(r), High: anyInt(r), Full: anyInt(r), Leave: anyInt(r), Within: anyInt(r)}
			for range 3 + r.Intn(3) {
				b.Start = append(b.Start, sp(anyInt(r), anyInt(r)))
			}
			g.Beds = append(g.Beds, b)
		}
		x := api.BedsTruth{Start: anyLists(r), Grown: [][][]int{anyLists(r), anyLists(r)}}
		s := api.BedsSurvey{Strips: anyInt(r), Most: anyInt(r), Miss: anyInt(r)}
		for range r.Intn(8) {
			s.Transects = append(s.Transects, api.BedsTransect{From: anyInt(r), To: anyInt(r), Seen: anyInt(r)})
		}
		w := api.BedsWater{Wait: anyInt(r), Warm: anyList(r)}
		for range r.Intn(4) {
			w.Ways = append(w.Ways, api.BedsWay{From: anyInt(r), To: anyInt(r)})
			w.Looks = append(w.Looks, api.BedsLook{Bed: anyInt(r), Day: anyInt(r), Sick: r.Intn(2) == 0})
		}
		cuts, list, n, m := anyLists(r), anyList(r), anyInt(r), anyInt(r)
		text := string([]byte{byte(r.Intn(256)), '\n', byte(r.Intn(256)), '\n'})
		if a, b := calls(g, cuts, x, s, w, list, n, m, text), calls(g, cuts, x, s, w, list, n, m, text); !equal(a, b) {
			t.Fatal(a, b)
		}
	}
}

// R3: nil and empty lists are the same
func TestNilAndEmpty(t *testing.T) {
	x := calls(api.BedsGround{Boats: 1, Years: 1}, nil, api.BedsTruth{}, api.BedsSurvey{Strips: 2, Most: 1}, api.BedsWater{Wait: 1, Warm: l(-1)}, nil, 1, 2, "")
	y := calls(api.BedsGround{Beds: []api.BedsBed{}, Boats: 1, Years: 1}, [][]int{}, api.BedsTruth{Start: [][]int{}, Grown: [][][]int{}}, api.BedsSurvey{Strips: 2, Most: 1, Transects: []api.BedsTransect{}}, api.BedsWater{Wait: 1, Warm: l(-1), Ways: []api.BedsWay{}, Looks: []api.BedsLook{}}, []int{}, 1, 2, "")
	if !equal(x, y) {
		t.Error(x, y)
	}
}

// R4: no argument is changed, also beyond the end of a list
func TestArguments(t *testing.T) {
	arguments := func() (api.BedsGround, [][]int, api.BedsTruth, api.BedsSurvey, api.BedsWater) {
		s, w := surveyS(), waterW()
		s.Transects = slices.Grow(s.Transects, 8)
		w.Looks = slices.Grow(w.Looks, 8)
		w.Warm = slices.Grow(w.Warm, 8)
		return groundG(), [][]int{l(0, 10), l(13, 0)}, truthG(), s, w
	}
	g, cuts, x, s, w := arguments()
	h, other, y, u, v := arguments()
	list := l(5, 15, 25)
	for n := range 5 {
		calls(g, cuts, x, s, w, list, n, 4, idleText)
	}
	if !equal(g, h) || !equal(cuts, other) || !equal(x, y) || !equal(s, u) || !equal(w, v) || !equal(list, l(5, 15, 25)) {
		t.Error(g, cuts, x, s, w, list)
	}
	if !equal(s.Transects[:cap(s.Transects)], u.Transects[:cap(u.Transects)]) || !equal(w.Looks[:cap(w.Looks)], v.Looks[:cap(v.Looks)]) || !equal(w.Warm[:cap(w.Warm)], v.Warm[:cap(v.Warm)]) {
		t.Error("something was changed beyond the end of a list")
	}
}

// R4: lists of a result share no memory with each other, nor with arguments
func TestResults(t *testing.T) {
	plan, _, _ := beds.Plan(groundG())
	want := copied(plan)
	plan[0] = append(plan[0], 99)
	plan[0][1] = 98
	if !equal(plan[1], want[1]) {
		t.Error(plan)
	}
	x := truthG()
	run, _ := beds.Run(groundG(), [][]int{l(0, 10), l(13, 0)}, x)
	for year := range run {
		for bed := range run[year] {
			run[year][bed] = append(run[year][bed], 99)
			for class := range run[year][bed] {
				run[year][bed][class] = 10*year + bed
			}
		}
	}
	for year := range run {
		for bed := range run[year] {
			if !equal(run[year][bed], slices.Repeat(l(10*year+bed), 5)) {
				t.Error(run)
			}
		}
	}
	if !equal(x, truthG()) {
		t.Error(x)
	}
	text, _ := beds.Print(groundG())
	g, _ := beds.Read(text)
	g.Beds[0].Start = append(g.Beds[0].Start, sp(9, 9))
	g.Beds[0].Start[0] = sp(8, 8)
	if !equal(g.Beds[1], bedA()) {
		t.Error(g)
	}
}
