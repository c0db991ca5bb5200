package loft_test

import (
	"math/rand"
	"slices"
	"testing"

	"bathyal/api"
	"bathyal/loft"
)

// P6.4
func TestDry(t *testing.T) {
	for i, x := range []struct {
		weighings []api.LoftWeighing
		want      api.Span
		e         api.Errno
	}{
		{[]api.LoftWeighing{weighing(1000, 10, 12, 0), weighing(990, 9, 10, 5)}, sp(890, 900), api.OK}, {[]api.LoftWeighing{weighing(1000, 10, 12, 0)}, sp(880, 900), api.OK}, {[]api.LoftWeighing{weighing(990, 9, 10, 5)}, sp(886, 905), api.OK}, {[]api.LoftWeighing{weighing(990, 9, 10, 5), weighing(1000, 10, 12, 0)}, sp(890, 900), api.OK},
		{[]api.LoftWeighing{weighing(100, 0, 0, 50)}, sp(50, 150), api.OK}, {[]api.LoftWeighing{weighing(100, 0, 0, 0)}, just(100), api.OK}, {[]api.LoftWeighing{weighing(100, 90, 90, 0)}, just(10), api.OK},
		// quotients are rounded down
		{[]api.LoftWeighing{weighing(99, 50, 50, 0)}, just(49), api.OK}, {[]api.LoftWeighing{weighing(99, 1, 1, 0)}, just(98), api.OK}, {[]api.LoftWeighing{weighing(19, 90, 90, 0)}, just(1), api.OK}, {[]api.LoftWeighing{weighing(9, 90, 90, 0)}, just(0), api.OK}, {[]api.LoftWeighing{weighing(1, 1, 90, 0)}, just(0), api.OK}, {[]api.LoftWeighing{weighing(1, 0, 90, 0)}, sp(0, 1), api.OK},
		// a dry weight is from 0 to the greatest weight
		{[]api.LoftWeighing{weighing(10000, 0, 0, 50)}, sp(9950, 10000), api.OK}, {[]api.LoftWeighing{weighing(1, 90, 90, 5)}, sp(0, 5), api.OK}, {[]api.LoftWeighing{weighing(10000, 0, 90, 50)}, sp(950, 10000), api.OK}, {[]api.LoftWeighing{weighing(10000, 0, 0, 0)}, just(10000), api.OK},
		// between the dry weights that one weighing leaves, others do not lie
		{[]api.LoftWeighing{weighing(10000, 0, 1, 0), weighing(9950, 0, 0, 49)}, sp(0, 0), api.ErrRule}, {[]api.LoftWeighing{weighing(10000, 0, 1, 0), weighing(9950, 0, 0, 50)}, sp(9900, 10000), api.OK}, {[]api.LoftWeighing{weighing(10000, 0, 2, 0), weighing(9950, 0, 0, 50)}, sp(9900, 10000), api.OK}, {[]api.LoftWeighing{weighing(1000, 10, 12, 2), weighing(895, 0, 0, 2)}, sp(0, 0), api.ErrRule}, {[]api.LoftWeighing{weighing(1000, 10, 12, 2), weighing(895, 0, 0, 3)}, sp(892, 898), api.OK},
		// weighings that contradict each other
		{[]api.LoftWeighing{weighing(100, 0, 0, 0), weighing(200, 0, 0, 0)}, sp(0, 0), api.ErrRule}, {[]api.LoftWeighing{weighing(100, 0, 0, 0), weighing(200, 0, 50, 0)}, just(100), api.OK}, {[]api.LoftWeighing{weighing(100, 0, 0, 0), weighing(200, 0, 49, 0)}, sp(0, 0), api.ErrRule}, {[]api.LoftWeighing{weighing(100, 0, 0, 50), weighing(201, 0, 0, 50)}, sp(0, 0), api.ErrRule}, {[]api.LoftWeighing{weighing(100, 0, 0, 50), weighing(200, 0, 0, 50)}, just(150), api.OK},
		{[]api.LoftWeighing{weighing(100, 0, 9, 9), weighing(100, 0, 9, 9), weighing(100, 0, 9, 9), weighing(1, 0, 0, 0)}, sp(0, 0), api.ErrRule}, {slices.Repeat([]api.LoftWeighing{weighing(100, 0, 9, 9)}, 4), sp(82, 109), api.OK},
		// lists that are not as defined, also if the others contradict each other
		{nil, sp(0, 0), api.ErrArg}, {[]api.LoftWeighing{}, sp(0, 0), api.ErrArg}, {slices.Repeat([]api.LoftWeighing{weighing(1, 0, 0, 0)}, 5), sp(0, 0), api.ErrArg}, {[]api.LoftWeighing{weighing(100, 0, 0, 0), weighing(200, 0, 0, 0), weighing(1, 0, 0, 51)}, sp(0, 0), api.ErrArg}, {append([]api.LoftWeighing{weighing(2, 0, 0, 0)}, slices.Repeat([]api.LoftWeighing{weighing(1, 0, 0, 0)}, 4)...), sp(0, 0), api.ErrArg},
	} {
		if s, e := loft.Dry(x.weighings); e != x.e || s != x.want {
			t.Error(i, s, e)
		}
	}
}

// P6.4
func TestDryErrors(t *testing.T) {
	var bad []api.LoftWeighing
	for _, n := range badNumbers(1, api.LoftWeight) {
		bad = append(bad, weighing(n, 0, 5, 5))
	}
	for _, s := range badSpans(0, api.LoftWet) {
		bad = append(bad, weighing(100, s.Low, s.High, 5))
	}
	for _, n := range badNumbers(0, api.LoftOff) {
		bad = append(bad, weighing(100, 0, 5, n))
	}
	for _, w := range bad {
		for at := range 3 {
			all := slices.Repeat([]api.LoftWeighing{weighing(100, 0, 5, 5)}, 3)
			all[at] = w
			if s, e := loft.Dry(all); e != api.ErrArg || s != sp(0, 0) {
				t.Error(w, at, s, e)
			}
		}
	}
}

// isDry reports whether a dry weight is possible for a weighing, by the definition.
func isDry(w api.LoftWeighing, dry int) bool {
	for water := w.Wet.Low; water <= w.Wet.High; water++ {
		left := w.Weight * (100 - water) / 100
		if left-dry <= w.Off && dry-left <= w.Off {
			return true
		}
	}
	return false
}

// anyWeighings returns weighings of a string, which mostly has a dry weight.
func anyWeighings(r *rand.Rand) []api.LoftWeighing {
	dry := r.Intn(200)
	if r.Intn(3) == 0 {
		dry = r.Intn(api.LoftWeight + 1)
	}
	var all []api.LoftWeighing
	for range anyOf(r, 1, api.LoftWeighings) {
		water := anyOf(r, 0, api.LoftWet/anyOf(r, 1, 9))
		low, off := max(0, water-r.Intn(4)), r.Intn(5)
		w := weighing(min(max(dry*100/(100-water)+anyOf(r, -off, off), 1), api.LoftWeight), low, min(water+r.Intn(4), api.LoftWet), off)
		if r.Intn(10) == 0 {
			w = weighing(anyOf(r, 1, api.LoftWeight), 0, r.Intn(api.LoftWet+1), anyOf(r, 0, api.LoftOff))
		}
		all = append(all, w)
	}
	return all
}

// P6.4: the bounds are the least and the greatest of all dry weights that are possible
func TestDryOfAny(t *testing.T) {
	r := source(8)
	met := map[string]int{}
	for range 1500 {
		all := anyWeighings(r)
		var possible []int
		for dry := range api.LoftWeight + 1 {
			if !slices.ContainsFunc(all, func(w api.LoftWeighing) bool { return !isDry(w, dry) }) {
				possible = append(possible, dry)
			}
		}
		s, e := loft.Dry(all)
		if len(possible) == 0 {
			if e != api.ErrRule || s != sp(0, 0) {
				t.Fatal(all, s, e)
			}
			met["none"]++
			continue
		}
		want := sp(possible[0], possible[len(possible)-1])
		if e != api.OK || s != want {
			t.Fatal(all, s, e, want)
		}
		met["some"]++
		if want.High-want.Low >= len(possible) {
			met["gaps"]++
		}
		if want.Low == want.High {
			met["one"]++
		}
	}
	wantAll(t, met, "none", "some", "gaps", "one")
}

// P6.4: whatever is true, the dry weight lies within the bounds
func TestDryTruth(t *testing.T) {
	r := source(9)
	for range 300 {
		dry := r.Intn(api.LoftWeight/10 + 1)
		var all []api.LoftWeighing
		for range anyOf(r, 1, api.LoftWeighings) {
			weight := anyOf(r, max(dry, 1), api.LoftWeight/10)
			water := 100 - min((dry*100+weight-1)/weight, 100)
			if water > api.LoftWet {
				continue
			}
			left := weight * (100 - water) / 100
			if off := max(left-dry, dry-left); off <= api.LoftOff {
				all = append(all, weighing(weight, max(0, water-r.Intn(3)), min(api.LoftWet, water+r.Intn(3)), off))
			}
		}
		if len(all) == 0 {
			continue
		}
		if s, e := loft.Dry(all); e != api.OK || dry < s.Low || dry > s.High {
			t.Fatal(dry, all, s, e)
		}
	}
}
