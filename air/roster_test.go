package air_test

import (
	"slices"
	"strings"
	"testing"

	"bathyal/air"
	"bathyal/api"
)

func roster(watches ...[]int) [][]int { return watches }

// strong returns so many crews that never tire.
func strong(crews int) []api.AirCrew {
	return slices.Repeat([]api.AirCrew{{Men: 1, Strokes: just(1), Tire: api.AirWatches}}, crews)
}

// badRosters returns rosters that are not as defined for four crews.
func badRosters() [][][]int {
	return [][][]int{
		nil, roster(nil), roster(nil, nil), roster(l(0), nil), roster(nil, l(0)), roster(l(0), l(0, 1)), roster(l(0, 1), l(0)), roster(l(0), l(1), l(0, 1)),
		roster(l(1, 0)), roster(l(0, 0)), roster(l(0, 1), l(2, 2)), roster(l(0, 2, 1)), roster(l(-1)), roster(l(4)), roster(l(0), l(4)), roster(l(-1, 0)), roster(l(0, 1, 4)), roster(l(0, 1, 2, 3)), roster(l(1<<63 - 1)), roster(l(-1 << 63)), roster(l(0, 1<<63-1)),
		slices.Repeat(roster(l(0)), api.AirWatches+1),
	}
}

// P4.5
func TestKeeps(t *testing.T) {
	lazy := func(tire, rest int) []api.AirCrew {
		crews := strong(4)
		crews[0].Tire, crews[0].Rest = tire, rest
		return crews
	}
	for i, x := range []struct {
		crews  []api.AirCrew
		roster [][]int
		want   bool
	}{
		{crewsB(), roster(l(0), l(0), l(2), l(0)), true}, {crewsB(), roster(l(0), l(0), l(0)), false}, {crewsB(), roster(l(2), l(0), l(2)), true}, {crewsB(), roster(l(2), l(2)), false}, {crewsB(), roster(l(0, 1), l(0, 1), l(1, 2)), true}, {crewsB(), roster(l(0, 1, 2)), true},
		{strong(4), roster(l(0, 1, 3), l(0, 1, 3), l(0, 1, 3), l(0, 1, 3), l(0, 1, 3), l(0, 1, 3)), true},
		// a rest of 0 and one of 1 come to the same
		{lazy(1, 0), roster(l(0), l(0)), false}, {lazy(1, 1), roster(l(0), l(0)), false}, {lazy(1, 0), roster(l(0), l(1), l(0)), true}, {lazy(1, 1), roster(l(0), l(1), l(0)), true},
		// after a shorter run there is as much rest
		{lazy(3, 2), roster(l(0), l(1), l(0)), false}, {lazy(3, 2), roster(l(0), l(1), l(1), l(0)), true}, {lazy(3, 3), roster(l(0), l(1), l(1), l(0)), false}, {lazy(3, 2), roster(l(0), l(0), l(0), l(1), l(1), l(0)), true}, {lazy(3, 2), roster(l(0), l(0), l(0), l(0), l(1), l(1)), false}, {lazy(2, 2), roster(l(0), l(0), l(1), l(0)), false},
		// there needs to be no rest before the first run, nor after the last one
		{lazy(1, 6), roster(l(1), l(0)), true}, {lazy(1, 6), roster(l(0), l(1)), true}, {lazy(1, 6), roster(l(1), l(1), l(1), l(1), l(1), l(0)), true}, {lazy(1, 4), roster(l(0), l(1), l(1), l(1), l(1), l(0)), true}, {lazy(1, 5), roster(l(0), l(1), l(1), l(1), l(1), l(0)), false}, {lazy(1, 6), roster(l(0), l(1), l(1), l(1), l(1), l(0)), false},
		// each crew counts, whichever place it has
		{lazy(1, 1), roster(l(0, 1), l(1, 2)), true}, {crewsB(), roster(l(1, 2), l(0, 2)), false}, {crewsB(), roster(l(0, 1), l(0, 1), l(0, 1)), false},
	} {
		if is, e := air.Keeps(x.crews, x.roster); e != api.OK || is != x.want {
			t.Error(i, is, e)
		}
	}
	for i, x := range badRosters() {
		if is, e := air.Keeps(strong(4), x); e != api.ErrArg || is {
			t.Error(i, is, e)
		}
	}
	if is, e := air.Keeps(crewsB(), roster(l(3))); e != api.ErrArg || is {
		t.Error(is, e)
	}
}

// P4.5
func TestRoster(t *testing.T) {
	for i, x := range []struct {
		crews          []api.AirCrew
		watches, pumps int
		want           [][]int
		men            int
		e              api.Errno
	}{
		{crewsB(), 4, 1, roster(l(0), l(0), l(2), l(0)), 4, api.OK}, {crewsB(), 3, 2, roster(l(0, 1), l(0, 1), l(1, 2)), 7, api.OK}, {crewsB(), 2, 1, roster(l(0), l(0)), 2, api.OK}, {crewsB(), 3, 1, roster(l(1), l(1), l(1)), 3, api.OK}, {crewsB(), 1, 3, roster(l(0, 1, 2)), 7, api.OK}, {crewsB(), 2, 3, nil, 0, api.ErrNone},
		{strong(4), 6, 2, slices.Repeat(roster(l(0, 1)), 6), 2, api.OK}, {strong(1), 6, 1, slices.Repeat(roster(l(0)), 6), 1, api.OK}, {strong(1), 1, 2, nil, 0, api.ErrNone}, {strong(2), 6, 3, nil, 0, api.ErrNone},
		{crewsB(), 0, 1, nil, 0, api.ErrArg}, {crewsB(), -1, 1, nil, 0, api.ErrArg}, {crewsB(), api.AirWatches + 1, 1, nil, 0, api.ErrArg}, {crewsB(), 1<<63 - 1, 1, nil, 0, api.ErrArg}, {crewsB(), 1, 0, nil, 0, api.ErrArg}, {crewsB(), 1, -1, nil, 0, api.ErrArg}, {crewsB(), 1, api.AirPumps + 1, nil, 0, api.ErrArg}, {crewsB(), 1, -1 << 63, nil, 0, api.ErrArg},
	} {
		if got, n, e := air.Roster(x.crews, x.watches, x.pumps); e != x.e || n != x.men || !equal(got, x.want) {
			t.Error(i, got, n, e)
		}
	}
}

// P4.5
func TestCrewsNotAsDefined(t *testing.T) {
	bad := [][]api.AirCrew{nil, strong(api.AirCrews + 1)}
	for _, c := range badCrews() {
		bad = append(bad, append(strong(3), c))
	}
	for i, crews := range bad {
		if is, e := air.Keeps(crews, roster(l(0))); e != api.ErrArg || is {
			t.Error(i, is, e)
		}
		if got, n, e := air.Roster(crews, 1, 1); e != api.ErrArg || len(got) != 0 || n != 0 {
			t.Error(i, got, n, e)
		}
	}
}

// keeps reports whether a roster can be kept, by the definition.
func keeps(crews []api.AirCrew, watches [][]int) bool {
	for crew, c := range crews {
		when := ""
		for _, watch := range watches {
			if slices.Contains(watch, crew) {
				when += "x"
			} else {
				when += "."
			}
		}
		long := func(run string) bool { return len(run) > c.Tire }
		short := func(gap string) bool { return len(gap) < c.Rest }
		runs, gaps := strings.FieldsFunc(when, func(r rune) bool { return r == '.' }), strings.FieldsFunc(strings.Trim(when, "."), func(r rune) bool { return r == 'x' })
		if slices.ContainsFunc(runs, long) || slices.ContainsFunc(gaps, short) {
			return false
		}
	}
	return true
}

// everyRoster returns all rosters of so many crews, in lexicographic order.
func everyRoster(crews, watches, pumps int) [][][]int {
	increases := func(list []int) bool {
		return slices.IsSorted(list) && len(slices.Compact(slices.Clone(list))) == len(list)
	}
	var choices [][]int
	for _, list := range lists(pumps, 0, crews-1) {
		if increases(list) {
			choices = append(choices, list)
		}
	}
	var all [][][]int
	for _, numbers := range lists(watches, 0, len(choices)-1) {
		var x [][]int
		for _, n := range numbers {
			x = append(x, choices[n])
		}
		all = append(all, x)
	}
	return all
}

// rosterMen returns the men of a roster.
func rosterMen(crews []api.AirCrew, watches [][]int) int {
	all := slices.Concat(watches...)
	men := 0
	for crew, c := range crews {
		if slices.Contains(all, crew) {
			men += c.Men
		}
	}
	return men
}

// P4.5: just those rosters can be kept that the definition says, and the best one is the first of those with the fewest men
func TestRosterOfAny(t *testing.T) {
	r := source(7)
	met := map[any]int{}
	for i := range 250 {
		var crews []api.AirCrew
		for range anyOf(r, 1, api.AirCrews) {
			crews = append(crews, anyCrew(r, 3))
		}
		watches, pumps := anyOf(r, 1, 4), anyOf(r, 1, api.AirPumps)
		if i%50 == 0 {
			watches = api.AirWatches
		}
		least, want := 0, [][]int(nil)
		for _, x := range everyRoster(len(crews), watches, pumps) {
			can := keeps(crews, x)
			met[can]++
			if is, e := air.Keeps(crews, x); e != api.OK || is != can {
				t.Fatal(crews, x, is, e)
			}
			if men := rosterMen(crews, x); can && (want == nil || men < least) {
				least, want = men, x
			}
		}
		e := api.OK
		if want == nil {
			e = api.ErrNone
		}
		got, n, f := air.Roster(crews, watches, pumps)
		if f != e || n != least || !equal(got, want) {
			t.Fatal(crews, watches, pumps, got, n, f, want, least, e)
		}
		met[e]++
		met[len(slices.Compact(slices.Sorted(slices.Values(slices.Concat(got...)))))]++
	}
	wantAll(t, met, any(true), any(false), any(api.OK), any(api.ErrNone), any(1), any(2), any(3), any(4))
}
