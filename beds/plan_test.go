package beds_test

import (
	"math"
	"math/rand"
	"slices"
	"testing"

	"bathyal/api"
	"bathyal/beds"
)

// before reports whether cuts come before others in lexicographic order.
func before(a, b [][]int) bool {
	return slices.CompareFunc(a, b, slices.Compare[[]int]) < 0
}

func total(cuts [][]int) int {
	sum := 0
	for _, year := range cuts {
		for _, cut := range year {
			sum += cut
		}
	}
	return sum
}

func copied(cuts [][]int) [][]int {
	next := slices.Clone(cuts)
	for i := range next {
		next[i] = slices.Clone(next[i])
	}
	return next
}

// allPlans returns all lawful plans, by the definition: bed by bed, with any set of years in which the bed is cut.
func allPlans(g api.BedsGround) [][][]int {
	plans := [][][]int{zeros(g)}
	for bed, b := range g.Beds {
		var next [][][]int
		for when := range 1 << g.Years {
			all, cuts, lawful := begin(b), make([]int, g.Years), true
			for year := range g.Years {
				if when>>year&1 == 1 {
					cuts[year] = all.most(b)
					lawful = lawful && cuts[year] > 0
				}
				all = all.grown(b, cuts[year])
			}
			for _, p := range plans {
				if lawful {
					q := copied(p)
					for year := range q {
						q[year][bed] = cuts[year]
					}
					next = append(next, q)
				}
			}
		}
		plans = next
	}
	return slices.DeleteFunc(plans, func(p [][]int) bool {
		return slices.ContainsFunc(p, func(year []int) bool {
			cut := 0
			for _, n := range year {
				cut += min(n, 1)
			}
			return cut > g.Boats
		})
	})
}

// bestPlan returns the best plan, by the definition.
func bestPlan(plans [][][]int) [][]int {
	best := plans[0]
	for _, p := range plans {
		if total(p) > total(best) || total(p) == total(best) && before(p, best) {
			best = p
		}
	}
	return best
}

// smallGround returns a ground of which all plans can be listed.
func smallGround(r *rand.Rand) api.BedsGround {
	g := groundOf(1+r.Intn(3), 1+r.Intn(3))
	for range 1 + r.Intn(3) {
		b := smallBed(r)
		b.Within = 1 + r.Intn(2)
		b.Full = r.Intn(b.Start[3].Low + 1)
		b.Leave = r.Intn(b.Full + 1)
		g.Beds = append(g.Beds, b)
	}
	return g
}

// P1.3
func TestKeeps(t *testing.T) {
	for i, x := range []struct {
		cuts [][]int
		want bool
		e    api.Errno
	}{
		{[][]int{l(0, 10), l(13, 0)}, true, api.OK},
		{[][]int{l(10, 0), l(0, 13)}, true, api.OK},
		{[][]int{l(0, 0), l(0, 0)}, true, api.OK},
		{[][]int{l(0, 0), l(0, 13)}, true, api.OK},
		// more beds than boats, less than the greatest cut, more, and a bed that is not full again
		{[][]int{l(10, 10), l(0, 0)}, false, api.OK},
		{[][]int{l(0, 9), l(0, 0)}, false, api.OK},
		{[][]int{l(0, 11), l(0, 0)}, false, api.OK},
		{[][]int{l(10, 0), l(5, 0)}, false, api.OK},
		{[][]int{l(0, math.MaxInt), l(0, 0)}, false, api.OK},
		{[][]int{l(0, 0), l(math.MaxInt, 0)}, false, api.OK},
		{nil, false, api.ErrArg},
		{[][]int{l(0, 0)}, false, api.ErrArg},
		{[][]int{l(0, 0), l(0, 0), l(0, 0)}, false, api.ErrArg},
		{[][]int{l(0, 0), l(0)}, false, api.ErrArg},
		{[][]int{l(0, 0), l(0, 0, 0)}, false, api.ErrArg},
		{[][]int{l(0, 0), l(0, -1)}, false, api.ErrArg},
		// what is not lawful does not hide what is not as defined
		{[][]int{l(10, 10), l(0, -1)}, false, api.ErrArg},
		{[][]int{l(10, 10), l(0)}, false, api.ErrArg},
	} {
		if got, e := beds.Keeps(groundG(), x.cuts); e != x.e || got != x.want {
			t.Error(i, got, e)
		}
	}
	for i, g := range badGrounds() {
		if got, e := beds.Keeps(g, [][]int{l(0)}); e != api.ErrArg || got {
			t.Error(i, got, e)
		}
	}
}

// P1.3
func TestPlan(t *testing.T) {
	a := bedA()
	none := bedWith(func(b *api.BedsBed) { b.Full = 21 })
	slow := bedWith(func(b *api.BedsBed) { b.Full, b.Leave, b.Low, b.High = 0, 0, 0, 0 })
	for i, x := range []struct {
		g    api.BedsGround
		want [][]int
		sum  int
	}{
		{groundG(), [][]int{l(0, 10), l(13, 0)}, 23},
		{groundOf(2, 2, a, a), [][]int{l(0, 0), l(13, 13)}, 26},
		{groundOf(1, 1, a, a), [][]int{l(0, 10)}, 10},
		{groundOf(1, 3, a), [][]int{l(10), l(0), l(9)}, 19},
		{groundOf(1, 1, none), [][]int{l(0)}, 0},
		// full a year later, with at least 33 in the end
		{groundOf(4, 2, none, none), [][]int{l(0, 0), l(12, 12)}, 24},
		// nothing grows, so that the last year is as good as the first one
		{groundOf(1, 4, slow), [][]int{l(0), l(0), l(0), l(20)}, 20},
	} {
		got, sum, e := beds.Plan(x.g)
		if e != api.OK || sum != x.sum || !equal(got, x.want) {
			t.Error(i, got, sum, e)
		}
	}
	for i, g := range badGrounds() {
		if got, sum, e := beds.Plan(g); e != api.ErrArg || len(got) > 0 || sum != 0 {
			t.Error(i, got, sum, e)
		}
	}
}

// P1.3: the best of all lawful plans, the first one of several
func TestPlanOfAll(t *testing.T) {
	r := source(4)
	for range 60 {
		g := smallGround(r)
		plans := allPlans(g)
		want := bestPlan(plans)
		got, sum, e := beds.Plan(g)
		if e != api.OK || sum != total(want) || !equal(got, want) {
			t.Fatal(g, got, sum, want, e)
		}
		for range 20 {
			p := copied(plans[r.Intn(len(plans))])
			if is, e := beds.Keeps(g, p); e != api.OK || !is {
				t.Fatal(g, p, is, e)
			}
			p[r.Intn(g.Years)][r.Intn(len(g.Beds))] = r.Intn(5)
			lawful := slices.ContainsFunc(plans, func(q [][]int) bool { return equal(p, q) })
			if is, e := beds.Keeps(g, p); e != api.OK || is != lawful {
				t.Fatal(g, p, is, lawful, e)
			}
		}
	}
}

// proposed returns a lawful plan that somebody proposes.
func proposed(r *rand.Rand, g api.BedsGround) [][]int {
	cuts := zeros(g)
	for year := range cuts {
		for bed := range g.Beds {
			if r.Intn(2) == 0 {
				continue
			}
			for cut := 1; cut <= 40; cut++ {
				cuts[year][bed] = cut
				if is, _ := beds.Keeps(g, cuts); is {
					break
				}
				cuts[year][bed] = 0
			}
		}
	}
	return cuts
}

// P1.3: no lawful plan that somebody proposes cuts more, or comes before
func TestPlanAgainstOthers(t *testing.T) {
	r := source(5)
	for range 20 {
		g := groundOf(1+r.Intn(4), 4)
		for range 4 {
			b := largeBed(r)
			b.Start[3] = span(r, 40, 3)
			b.Full = r.Intn(b.Start[3].Low + 1)
			b.Leave = r.Intn(b.Full + 1)
			g.Beds = append(g.Beds, b)
		}
		best, sum, e := beds.Plan(g)
		is, f := beds.Keeps(g, best)
		if e != api.OK || f != api.OK || !is || total(best) != sum {
			t.Fatal(g, best, sum, e, is, f)
		}
		for range 20 {
			p := proposed(r, g)
			if total(p) > sum || total(p) == sum && before(p, best) {
				t.Fatal(g, best, p)
			}
		}
	}
}
