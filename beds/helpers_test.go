package beds_test

import (
	"math/rand"
	"reflect"
	"testing"

	"bathyal/api"
)

func sp(low, high int) api.Span { return api.Span{Low: low, High: high} }

func l(n ...int) []int { return n }

// bedA returns the bed a of the chapter.
func bedA() api.BedsBed {
	return api.BedsBed{Start: []api.Span{sp(0, 0), sp(10, 12), sp(10, 10), sp(20, 22)}, Low: 50, High: 100, Full: 20, Leave: 10, Within: 2}
}

// bedWith returns the bed a with a change.
func bedWith(change func(*api.BedsBed)) api.BedsBed {
	b := bedA()
	change(&b)
	return b
}

func groundOf(boats, years int, beds ...api.BedsBed) api.BedsGround {
	return api.BedsGround{Beds: beds, Boats: boats, Years: years}
}

// groundG returns the ground g of the chapter.
func groundG() api.BedsGround { return groundOf(1, 2, bedA(), bedA()) }

// surveyS returns the survey s of the chapter.
func surveyS() api.BedsSurvey {
	return api.BedsSurvey{Strips: 4, Most: 5, Miss: 1, Transects: []api.BedsTransect{{From: 0, To: 2, Seen: 6}, {From: 1, To: 4, Seen: 9}}}
}

// waterW returns the water w of the chapter.
func waterW() api.BedsWater {
	return api.BedsWater{Wait: 10, Warm: l(5, -1, -1), Ways: []api.BedsWay{{From: 0, To: 1}, {From: 1, To: 2}}, Looks: []api.BedsLook{{Bed: 1, Day: 20, Sick: true}}}
}

// variants returns what is whole, once with each of some changes.
func variants[T any](whole func() T, changes ...func(*T)) []T {
	var all []T
	for _, change := range changes {
		x := whole()
		change(&x)
		all = append(all, x)
	}
	return all
}

// badBeds returns beds that are not as defined.
func badBeds() []api.BedsBed {
	return variants(bedA,
		func(b *api.BedsBed) { b.Start = nil },
		func(b *api.BedsBed) { b.Start = b.Start[:3] },
		func(b *api.BedsBed) { b.Start = append(b.Start, sp(0, 0)) },
		func(b *api.BedsBed) { b.Start[0] = sp(-1, 0) },
		func(b *api.BedsBed) { b.Start[1] = sp(2, 1) },
		func(b *api.BedsBed) { b.Start[3] = sp(20, api.BedsPieces+1) },
		func(b *api.BedsBed) { b.Low = -1 },
		func(b *api.BedsBed) { b.Low, b.High = 51, 50 },
		func(b *api.BedsBed) { b.High = api.BedsWhole + 1 },
		func(b *api.BedsBed) { b.Full, b.Leave = -1, -1 },
		func(b *api.BedsBed) { b.Full = api.BedsClasses*api.BedsPieces + 1 },
		func(b *api.BedsBed) { b.Leave = -1 },
		func(b *api.BedsBed) { b.Leave = b.Full + 1 },
		func(b *api.BedsBed) { b.Within = 0 },
		func(b *api.BedsBed) { b.Within = api.BedsWithin + 1 },
	)
}

// badGrounds returns grounds that are not as defined.
func badGrounds() []api.BedsGround {
	a := bedA()
	bad := []api.BedsGround{{}, groundOf(1, 1), groundOf(1, 1, a, a, a, a, a), groundOf(0, 1, a), groundOf(api.BedsFew+1, 1, a), groundOf(-1, 1, a), groundOf(1, 0, a), groundOf(1, api.BedsYears+1, a), groundOf(1, -1, a)}
	for _, b := range badBeds() {
		bad = append(bad, groundOf(1, 1, b), groundOf(1, 1, a, b))
	}
	return bad
}

// zeros returns a list of years and beds in which nothing is cut.
func zeros(g api.BedsGround) [][]int {
	cuts := make([][]int, g.Years)
	for year := range cuts {
		cuts[year] = make([]int, len(g.Beds))
	}
	return cuts
}

// equal compares values of any type; nil and empty lists are the same.
func equal(a, b any) bool {
	x, y := reflect.ValueOf(a), reflect.ValueOf(b)
	if x.Kind() == reflect.Slice && x.Len() == 0 && y.Len() == 0 {
		return true
	}
	return reflect.DeepEqual(a, b)
}

// source returns numbers that are the same in each run.
func source(seed int64) *rand.Rand { return rand.New(rand.NewSource(seed)) }

// span returns a span from 0 to a limit, which is at most so wide.
func span(r *rand.Rand, limit, wide int) api.Span {
	low := r.Intn(limit + 1)
	return sp(low, min(limit, low+r.Intn(wide+1)))
}

func wantErr(t *testing.T, what string, got, want api.Errno) {
	t.Helper()
	if got != want {
		t.Errorf("%s: error %d, not %d", what, got, want)
	}
}
