package beds_test

import (
	"math"
	"math/rand"
	"slices"
	"testing"

	"bathyal/api"
	"bathyal/beds"
)

const (
	never  = api.BedsNever
	may    = api.BedsMay
	surely = api.BedsSurely
)

// twoBeds returns a water of two beds, the second one of which was not sick on the day 5.
func twoBeds() api.BedsWater {
	return api.BedsWater{Wait: 3, Warm: l(0, -1), Ways: []api.BedsWay{{From: 0, To: 1}}, Looks: []api.BedsLook{{Bed: 1, Day: 5}}}
}

// badWaters returns waters that are not as defined.
func badWaters() []api.BedsWater {
	return variants(waterW,
		func(w *api.BedsWater) { *w = api.BedsWater{} },
		func(w *api.BedsWater) { w.Wait = 0 },
		func(w *api.BedsWater) { w.Wait = -1 },
		func(w *api.BedsWater) { w.Wait = api.BedsDays + 1 },
		func(w *api.BedsWater) { w.Warm = nil },
		func(w *api.BedsWater) { w.Warm = make([]int, api.BedsMany+1) },
		func(w *api.BedsWater) { w.Warm[0] = -2 },
		func(w *api.BedsWater) { w.Warm[2] = api.BedsDays + 1 },
		func(w *api.BedsWater) { w.Ways[0].From = -1 },
		func(w *api.BedsWater) { w.Ways[0].From = 3 },
		func(w *api.BedsWater) { w.Ways[1].To = -1 },
		func(w *api.BedsWater) { w.Ways[1].To = 3 },
		func(w *api.BedsWater) { w.Ways[1].To = 1 },
		func(w *api.BedsWater) { w.Ways = slices.Repeat(w.Ways, 9)[:api.BedsWays+1] },
		func(w *api.BedsWater) { w.Looks[0].Bed = 3 },
		func(w *api.BedsWater) { w.Looks[0].Bed = -1 },
		func(w *api.BedsWater) { w.Looks[0].Day = -1 },
		func(w *api.BedsWater) { w.Looks[0].Day = api.BedsDays + 1 },
		func(w *api.BedsWater) { w.Looks = slices.Repeat(w.Looks, api.BedsLooks+1) },
	)
}

// brokenWaters returns waters that are not possible.
func brokenWaters() []api.BedsWater {
	early, both := waterW(), waterW()
	early.Looks[0].Day = 14
	both.Looks = append(both.Looks, api.BedsLook{Bed: 1, Day: 20})
	return []api.BedsWater{
		{Wait: 1, Warm: l(-1, -1), Looks: []api.BedsLook{{Bed: 0, Day: 5, Sick: true}}},
		early, both,
		// neither of two beds is the first one
		{Wait: 1, Warm: l(-1, -1), Ways: []api.BedsWay{{From: 0, To: 1}, {From: 1, To: 0}}, Looks: []api.BedsLook{{Bed: 0, Day: 120, Sick: true}}},
	}
}

// fits reports whether a list of days is a truth, by the definition.
func fits(w api.BedsWater, days []int) bool {
	for bed, day := range days {
		cause := day == -1 || w.Warm[bed] != -1 && w.Warm[bed] <= day
		for _, way := range w.Ways {
			cause = cause || way.To == bed && days[way.From] != -1 && days[way.From]+w.Wait <= day
		}
		if !cause {
			return false
		}
	}
	for _, look := range w.Looks {
		if sick(days[look.Bed], look.Day) != look.Sick {
			return false
		}
	}
	return true
}

// sick reports whether a bed that falls sick on some day, or on none, is sick on another one.
func sick(falls, day int) bool { return falls != -1 && falls <= day }

// smallWater returns a water in which nothing is before a day, and what matters is within 20 days of it.
func smallWater(r *rand.Rand, from int) api.BedsWater {
	w := api.BedsWater{Wait: 1 + r.Intn(6)}
	n := 1 + r.Intn(3)
	for range n {
		warm := -1
		if r.Intn(2) == 0 {
			warm = from + r.Intn(9)
		}
		w.Warm = append(w.Warm, warm)
	}
	for range r.Intn(6) {
		a, b := r.Intn(n), r.Intn(n)
		if a != b {
			w.Ways = append(w.Ways, api.BedsWay{From: a, To: b})
		}
	}
	for range r.Intn(4) {
		w.Looks = append(w.Looks, api.BedsLook{Bed: r.Intn(n), Day: from + r.Intn(21), Sick: r.Intn(3) == 0})
	}
	return w
}

// truthsOf returns all truths of a water from some day on, on which a bed falls sick within 20 days or not at all.
func truthsOf(w api.BedsWater, from int) [][]int {
	all := [][]int{{}}
	for range w.Warm {
		var next [][]int
		for _, x := range all {
			next = append(next, append(slices.Clone(x), -1))
			for day := from; day <= from+20; day++ {
				next = append(next, append(slices.Clone(x), day))
			}
		}
		all = next
	}
	return slices.DeleteFunc(all, func(x []int) bool { return !fits(w, x) })
}

// words returns what some truths say of each bed on a day, and the beds that are closed then.
func words(beds int, all [][]int, day int) ([]api.BedsWord, []int) {
	var out []api.BedsWord
	var closed []int
	for bed := range beds {
		n := 0
		for _, x := range all {
			if sick(x[bed], day) {
				n++
			}
		}
		switch n {
		case 0:
			out = append(out, never)
			continue
		case len(all):
			out = append(out, surely)
		default:
			out = append(out, may)
		}
		closed = append(closed, bed)
	}
	return out, closed
}

// P1.7
func TestWater(t *testing.T) {
	full := api.BedsWater{Wait: 120, Warm: l(0, 120, -1, 0, 0, 0, 0, 0), Ways: slices.Repeat([]api.BedsWay{{From: 7, To: 0}}, 16), Looks: slices.Repeat([]api.BedsLook{{Bed: 7, Day: 120}}, 8)}
	for i, w := range append(brokenWaters(), waterW(), twoBeds(), full, api.BedsWater{Wait: 1, Warm: l(-1)}) {
		if e := beds.Water(w); e != api.OK {
			t.Error(i, e)
		}
	}
	for i, w := range badWaters() {
		if e := beds.Water(w); e != api.ErrArg {
			t.Error(i, e)
		}
	}
}

// P1.7
func TestFalls(t *testing.T) {
	for i, x := range []struct {
		w    api.BedsWater
		days []int
		want bool
		e    api.Errno
	}{
		{waterW(), l(5, 15, -1), true, api.OK},
		{waterW(), l(5, 15, 25), true, api.OK},
		{waterW(), l(5, 20, 30), true, api.OK},
		{waterW(), l(10, 20, 120), true, api.OK},
		{waterW(), l(5, 14, -1), false, api.OK},
		{waterW(), l(4, 15, -1), false, api.OK},
		{waterW(), l(-1, 15, -1), false, api.OK},
		{waterW(), l(5, 21, -1), false, api.OK},
		{waterW(), l(5, -1, -1), false, api.OK},
		{waterW(), l(5, 20, 29), false, api.OK},
		{twoBeds(), l(-1, -1), true, api.OK},
		{twoBeds(), l(0, 6), true, api.OK},
		{twoBeds(), l(0, 5), false, api.OK},
		{brokenWaters()[0], l(-1, -1), false, api.OK},
		{brokenWaters()[2], l(5, 20, -1), false, api.OK},
		{waterW(), nil, false, api.ErrArg},
		{waterW(), l(5, 15), false, api.ErrArg},
		{waterW(), l(5, 15, -1, -1), false, api.ErrArg},
		{waterW(), l(5, 15, 121), false, api.ErrArg},
		{waterW(), l(4, 15, 121), false, api.ErrArg},
		{waterW(), l(5, 15, -2), false, api.ErrArg},
		{waterW(), l(math.MaxInt, 15, math.MinInt), false, api.ErrArg},
	} {
		if got, e := beds.Falls(x.w, x.days); e != x.e || got != x.want {
			t.Error(i, got, e)
		}
	}
}

// P1.7
func TestReach(t *testing.T) {
	for i, x := range []struct {
		w    api.BedsWater
		want []int
	}{
		{waterW(), l(5, 15, 25)},
		{twoBeds(), l(0, 6)},
		{api.BedsWater{Wait: 1, Warm: l(-1, -1)}, l(-1, -1)},
		{api.BedsWater{Wait: 5, Warm: l(115, -1), Ways: []api.BedsWay{{From: 0, To: 1}}}, l(115, 120)},
		{api.BedsWater{Wait: 6, Warm: l(115, -1), Ways: []api.BedsWay{{From: 0, To: 1}}}, l(115, -1)},
		{api.BedsWater{Wait: 1, Warm: l(0), Looks: []api.BedsLook{{Day: 120}}}, l(-1)},
		{api.BedsWater{Wait: 1, Warm: l(0), Looks: []api.BedsLook{{Day: 119}, {Day: 7}}}, l(120)},
		{api.BedsWater{Wait: 5, Warm: l(-1, 10), Ways: []api.BedsWay{{From: 0, To: 1}, {From: 1, To: 0}}}, l(15, 10)},
		// what was not sick itself can pass nothing on
		{api.BedsWater{Wait: 5, Warm: l(1, -1, -1), Ways: []api.BedsWay{{From: 0, To: 1}, {From: 1, To: 2}}, Looks: []api.BedsLook{{Bed: 1, Day: 30}, {Bed: 0, Day: 3}}}, l(4, 31, 36)},
	} {
		if got, e := beds.Reach(x.w); e != api.OK || !equal(got, x.want) {
			t.Error(i, got, e)
		}
	}
}

// P1.7
func TestSickAndClosed(t *testing.T) {
	for i, x := range []struct {
		w      api.BedsWater
		day    int
		want   []api.BedsWord
		closed []int
	}{
		{waterW(), 0, []api.BedsWord{never, never, never}, nil},
		{waterW(), 9, []api.BedsWord{may, never, never}, l(0)},
		{waterW(), 10, []api.BedsWord{surely, never, never}, l(0)},
		{waterW(), 19, []api.BedsWord{surely, may, never}, l(0, 1)},
		{waterW(), 20, []api.BedsWord{surely, surely, never}, l(0, 1)},
		{waterW(), 24, []api.BedsWord{surely, surely, never}, l(0, 1)},
		{waterW(), 25, []api.BedsWord{surely, surely, may}, l(0, 1, 2)},
		{waterW(), 120, []api.BedsWord{surely, surely, may}, l(0, 1, 2)},
		{twoBeds(), 5, []api.BedsWord{may, never}, l(0)},
		{twoBeds(), 6, []api.BedsWord{may, may}, l(0, 1)},
	} {
		got, e := beds.Sick(x.w, x.day)
		closed, f := beds.Closed(x.w, x.day)
		if e != api.OK || f != api.OK || !equal(got, x.want) || !equal(closed, x.closed) {
			t.Error(i, got, e, closed, f)
		}
	}
}

// P1.8
func TestLook(t *testing.T) {
	// a bed that passes sickness on to two others is worth more than either
	star := api.BedsWater{Wait: 2, Warm: l(-1, 3, -1), Ways: []api.BedsWay{{From: 1, To: 0}, {From: 1, To: 2}}}
	for i, x := range []struct {
		w           api.BedsWater
		day         int
		bed, closed int
		e           api.Errno
	}{
		{waterW(), 30, 2, 2, api.OK},
		{waterW(), 15, 1, 1, api.OK},
		{twoBeds(), 10, 0, 0, api.OK},
		{twoBeds(), 5, 0, 0, api.OK},
		{star, 10, 1, 0, api.OK},
		{star, 4, 1, 0, api.OK},
		// of two beds that are alike, the first one
		{api.BedsWater{Wait: 1, Warm: l(-1, 2, 2)}, 5, 1, 1, api.OK},
		{waterW(), 24, 0, 0, api.ErrNone},
		{waterW(), 4, 0, 0, api.ErrNone},
		{api.BedsWater{Wait: 1, Warm: l(-1, -1)}, 120, 0, 0, api.ErrNone},
	} {
		if bed, closed, e := beds.Look(x.w, x.day); e != x.e || bed != x.bed || closed != x.closed {
			t.Error(i, bed, closed, e)
		}
	}
}

// P1.7, P1.8: the errors, in order
func TestWaterErrors(t *testing.T) {
	check := func(w api.BedsWater, day int, want api.Errno) {
		t.Helper()
		sick, e := beds.Sick(w, day)
		closed, f := beds.Closed(w, day)
		bed, n, g := beds.Look(w, day)
		if e != want || f != want || g != want || len(sick) > 0 || len(closed) > 0 || bed != 0 || n != 0 {
			t.Error(w, day, sick, e, closed, f, bed, n, g)
		}
	}
	for _, w := range badWaters() {
		check(w, 5, api.ErrArg)
		days, e := beds.Reach(w)
		is, f := beds.Falls(w, make([]int, len(w.Warm)))
		if e != api.ErrArg || f != api.ErrArg || len(days) > 0 || is {
			t.Error(w, days, e, is, f)
		}
	}
	for _, w := range append(brokenWaters(), waterW()) {
		for _, day := range []int{-1, 121, math.MinInt, math.MaxInt} {
			check(w, day, api.ErrArg)
		}
	}
	for _, w := range brokenWaters() {
		check(w, 5, api.ErrRule)
		if days, e := beds.Reach(w); e != api.ErrRule || len(days) > 0 {
			t.Error(w, days, e)
		}
	}
	for _, w := range append(brokenWaters(), waterW(), api.BedsWater{Wait: 1, Warm: l(-1, -1), Looks: []api.BedsLook{{Bed: 0, Day: 1}}}) {
		w.Looks = slices.Repeat(w.Looks, api.BedsLooks)[:api.BedsLooks]
		if bed, n, e := beds.Look(w, 30); e != api.ErrArg || bed != 0 || n != 0 {
			t.Error(w, bed, n, e)
		}
	}
	// with as many looks as there can be, all else is known still
	w := waterW()
	w.Looks = slices.Repeat(w.Looks, api.BedsLooks)
	if got, e := beds.Sick(w, 9); e != api.OK || !equal(got, []api.BedsWord{may, never, never}) {
		t.Error(got, e)
	}
}

// P1.7, P1.8: by all truths
func TestWaterOfAllTruths(t *testing.T) {
	r, possible := source(10), 0
	for i := range 240 {
		from := i % 2 * 100
		w := smallWater(r, from)
		all := truthsOf(w, from)
		days, e := beds.Reach(w)
		if len(all) == 0 {
			if e != api.ErrRule || len(days) > 0 {
				t.Fatal(w, days, e)
			}
			continue
		}
		possible++
		if is, f := beds.Falls(w, days); e != api.OK || f != api.OK || !is {
			t.Fatal(w, days, e, is, f)
		}
		for bed, day := range days {
			checkFirst(t, w, all, bed, day)
		}
		for day := from; day <= from+20; day++ {
			checkDay(t, w, all, day)
		}
		for range 20 {
			x := make([]int, len(w.Warm))
			for bed := range x {
				x[bed] = max(-1, min(120, from+r.Intn(23)-1))
			}
			if is, e := beds.Falls(w, x); e != api.OK || is != fits(w, x) {
				t.Fatal(w, x, is, e)
			}
		}
	}
	if possible < 100 || possible == 240 {
		t.Error(possible)
	}
}

// checkFirst checks the first day on which a bed can be sick.
func checkFirst(t *testing.T, w api.BedsWater, all [][]int, bed, day int) {
	t.Helper()
	first := -1
	for _, x := range all {
		if x[bed] != -1 && (first == -1 || x[bed] < first) {
			first = x[bed]
		}
	}
	// later than the days that are listed is as good as never
	if day != first && (first != -1 || day <= 20 || day > 100) {
		t.Fatal(w, bed, day, first)
	}
}

// checkDay checks what is known on a day.
func checkDay(t *testing.T, w api.BedsWater, all [][]int, day int) {
	t.Helper()
	want, shut := words(len(w.Warm), all, day)
	got, e := beds.Sick(w, day)
	closed, f := beds.Closed(w, day)
	if e != api.OK || f != api.OK || !equal(got, want) || !equal(closed, shut) {
		t.Fatal(w, day, got, want, closed, shut)
	}
	at, least := -1, math.MaxInt
	for bed, word := range want {
		if word != may {
			continue
		}
		var well [][]int
		for _, x := range all {
			if !sick(x[bed], day) {
				well = append(well, x)
			}
		}
		if _, shut := words(len(w.Warm), well, day); len(shut) < least {
			at, least = bed, len(shut)
		}
	}
	bed, n, e := beds.Look(w, day)
	if at == -1 && (e != api.ErrNone || bed != 0 || n != 0) || at != -1 && (e != api.OK || bed != at || n != least) {
		t.Fatal(w, day, bed, n, e, at, least)
	}
}

// largeWater returns a water of any size, without looks.
func largeWater(r *rand.Rand) api.BedsWater {
	w := api.BedsWater{Wait: 1 + r.Intn(30)}
	n := 2 + r.Intn(7)
	for range n {
		w.Warm = append(w.Warm, max(-1, r.Intn(160)-80))
	}
	for range r.Intn(api.BedsWays + 1) {
		a := r.Intn(n)
		w.Ways = append(w.Ways, api.BedsWay{From: a, To: (a + 1 + r.Intn(n-1)) % n})
	}
	return w
}

// P1.7, P1.10: the days of Reach are a truth, and a look more never closes a bed more
func TestLookMore(t *testing.T) {
	r, possible := source(11), 0
	for range 1000 {
		w, day := largeWater(r), r.Intn(121)
		was, e := beds.Closed(w, day)
		if e != api.OK {
			t.Fatal(w, e)
		}
		for range api.BedsLooks {
			next := w
			next.Looks = append(slices.Clone(w.Looks), api.BedsLook{Bed: r.Intn(len(w.Warm)), Day: r.Intn(121), Sick: r.Intn(2) == 0})
			days, e := beds.Reach(next)
			if e == api.ErrRule {
				continue
			}
			w = next
			possible++
			is, f := beds.Falls(w, days)
			closed, g := beds.Closed(w, day)
			if e != api.OK || f != api.OK || g != api.OK || !is {
				t.Fatal(w, days, e, is, f, closed, g)
			}
			for _, bed := range closed {
				if !slices.Contains(was, bed) || days[bed] == -1 || days[bed] > day {
					t.Fatal(w, day, closed, was, days)
				}
			}
			was = closed
		}
	}
	if possible < 1000 {
		t.Error(possible)
	}
}
