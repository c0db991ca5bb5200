package beds_test

import (
	"math"
	"math/rand"
	"slices"
	"testing"

	"bathyal/api"
	"bathyal/beds"
)

// surveyWith returns the survey s with some transects more.
func surveyWith(more ...api.BedsTransect) api.BedsSurvey {
	s := surveyS()
	s.Transects = append(s.Transects, more...)
	return s
}

// badSurveys returns surveys that are not as defined.
func badSurveys() []api.BedsSurvey {
	return variants(surveyS,
		func(s *api.BedsSurvey) { *s = api.BedsSurvey{} },
		func(s *api.BedsSurvey) { s.Strips = api.BedsStrips + 1 },
		func(s *api.BedsSurvey) { s.Strips = -1 },
		func(s *api.BedsSurvey) { s.Most = -1 },
		func(s *api.BedsSurvey) { s.Most = api.BedsDense + 1 },
		func(s *api.BedsSurvey) { s.Miss = -1 },
		func(s *api.BedsSurvey) { s.Miss = api.BedsMissed + 1 },
		func(s *api.BedsSurvey) { s.Transects = slices.Repeat(s.Transects, 4)[:api.BedsTransects+1] },
		func(s *api.BedsSurvey) { s.Transects[0].From = -1 },
		func(s *api.BedsSurvey) { s.Transects[0].From = 2 },
		func(s *api.BedsSurvey) { s.Transects[0].From = math.MaxInt },
		func(s *api.BedsSurvey) { s.Transects[1].To = 5 },
		func(s *api.BedsSurvey) { s.Transects[1].To = math.MinInt },
		func(s *api.BedsSurvey) { s.Transects[0].Seen = -1 },
		func(s *api.BedsSurvey) { s.Transects[0].Seen = api.BedsStrips*api.BedsDense + 1 },
	)
}

// impossible returns surveys that are not possible.
func impossible() []api.BedsSurvey {
	return []api.BedsSurvey{
		surveyWith(api.BedsTransect{From: 0, To: 1, Seen: 6}),
		surveyWith(api.BedsTransect{From: 2, To: 4, Seen: 10}),
		surveyWith(api.BedsTransect{From: 0, To: 2, Seen: 4}),
		surveyWith(api.BedsTransect{From: 0, To: 4, Seen: 120}),
		surveyWith(api.BedsTransect{From: 0, To: 1, Seen: 0}, api.BedsTransect{From: 1, To: 2, Seen: 0}),
	}
}

// layouts returns all layouts of a survey, in lexicographic order, by the definition.
func layouts(s api.BedsSurvey) [][]int {
	all := [][]int{{}}
	for range s.Strips {
		var next [][]int
		for _, x := range all {
			for n := range s.Most + 1 {
				next = append(next, append(slices.Clone(x), n))
			}
		}
		all = next
	}
	return slices.DeleteFunc(all, func(x []int) bool {
		return slices.ContainsFunc(s.Transects, func(t api.BedsTransect) bool {
			n := along(x, t.From, t.To)
			return n < t.Seen || n > t.Seen+s.Miss
		})
	})
}

func along(layout []int, from, to int) int {
	sum := 0
	for _, n := range layout[from:to] {
		sum += n
	}
	return sum
}

// counted returns between which bounds the number of sponges in some strips lies in some layouts.
func counted(all [][]int, from, to int) api.Span {
	s := sp(along(all[0], from, to), along(all[0], from, to))
	for _, x := range all {
		s.Low, s.High = min(s.Low, along(x, from, to)), max(s.High, along(x, from, to))
	}
	return s
}

// smallSurvey returns a survey of which all layouts can be listed, and that is possible most often.
func smallSurvey(r *rand.Rand) api.BedsSurvey {
	s := api.BedsSurvey{Strips: 1 + r.Intn(4), Most: r.Intn(5), Miss: r.Intn(4)}
	truth := make([]int, s.Strips)
	for i := range truth {
		truth[i] = r.Intn(s.Most + 1)
	}
	for range r.Intn(5) {
		from := r.Intn(s.Strips)
		to := from + 1 + r.Intn(s.Strips-from)
		seen := along(truth, from, to) - r.Intn(s.Miss+1)
		if r.Intn(12) == 0 {
			seen += r.Intn(5) - 2
		}
		s.Transects = append(s.Transects, api.BedsTransect{From: from, To: to, Seen: max(0, seen)})
	}
	return s
}

// P1.5
func TestSurvey(t *testing.T) {
	wide := api.BedsSurvey{Strips: 10, Most: 12, Miss: 5, Transects: slices.Repeat([]api.BedsTransect{{From: 0, To: 10, Seen: 120}}, 6)}
	for i, s := range append(impossible(), surveyS(), wide, api.BedsSurvey{Strips: 1}) {
		if e := beds.Survey(s); e != api.OK {
			t.Error(i, e)
		}
	}
	for i, s := range badSurveys() {
		if e := beds.Survey(s); e != api.ErrArg {
			t.Error(i, e)
		}
	}
}

// P1.5
func TestLies(t *testing.T) {
	for i, x := range []struct {
		s      api.BedsSurvey
		layout []int
		want   bool
		e      api.Errno
	}{
		{surveyS(), l(1, 5, 0, 4), true, api.OK},
		{surveyS(), l(5, 1, 4, 5), true, api.OK},
		{surveyS(), l(3, 3, 3, 3), true, api.OK},
		{surveyS(), l(1, 5, 0, 3), false, api.OK},
		{surveyS(), l(3, 2, 3, 4), false, api.OK},
		{surveyS(), l(3, 5, 0, 4), false, api.OK},
		{surveyS(), l(0, 6, 0, 3), false, api.OK},
		{surveyS(), l(7, -1, 5, 5), false, api.OK},
		{surveyS(), l(math.MaxInt, math.MaxInt, math.MaxInt, math.MinInt), false, api.OK},
		{impossible()[0], l(6, 0, 5, 4), false, api.OK},
		{surveyS(), nil, false, api.ErrArg},
		{surveyS(), l(1, 5, 0), false, api.ErrArg},
		{surveyS(), l(1, 5, 0, 4, 0), false, api.ErrArg},
	} {
		if got, e := beds.Lies(x.s, x.layout); e != x.e || got != x.want {
			t.Error(i, got, e)
		}
	}
}

// P1.5
func TestCount(t *testing.T) {
	for i, x := range []struct {
		s        api.BedsSurvey
		from, to int
		want     api.Span
	}{
		{surveyS(), 0, 4, sp(10, 15)}, {surveyS(), 0, 1, sp(1, 5)}, {surveyS(), 1, 2, sp(1, 5)}, {surveyS(), 0, 2, sp(6, 7)}, {surveyS(), 1, 4, sp(9, 10)}, {surveyS(), 2, 4, sp(4, 9)}, {surveyS(), 2, 3, sp(0, 5)},
		{api.BedsSurvey{Strips: 10, Most: 12}, 0, 10, sp(0, 120)},
		{api.BedsSurvey{Strips: 1}, 0, 1, sp(0, 0)},
	} {
		if got, e := beds.Count(x.s, x.from, x.to); e != api.OK || got != x.want {
			t.Error(i, got, e)
		}
	}
}

// P1.5
func TestLayout(t *testing.T) {
	for i, x := range []struct {
		from, to int
		high     bool
		want     []int
	}{
		{0, 4, false, l(1, 5, 0, 4)}, {0, 4, true, l(5, 1, 4, 5)}, {0, 1, false, l(1, 5, 0, 4)}, {0, 1, true, l(5, 1, 3, 5)},
	} {
		if got, e := beds.Layout(surveyS(), x.from, x.to, x.high); e != api.OK || !equal(got, x.want) {
			t.Error(i, got, e)
		}
	}
}

// P1.5, P1.6: the errors, in order
func TestSurveyErrors(t *testing.T) {
	check := func(s api.BedsSurvey, from, to int, want api.Errno) {
		t.Helper()
		if n, e := beds.Count(s, from, to); e != want || n != sp(0, 0) {
			t.Error(s, from, to, n, e)
		}
		for _, high := range []bool{false, true} {
			if x, e := beds.Layout(s, from, to, high); e != want || len(x) > 0 {
				t.Error(s, from, to, x, e)
			}
		}
	}
	for _, s := range badSurveys() {
		check(s, 0, 1, api.ErrArg)
		is, e := beds.Lies(s, make([]int, max(0, min(s.Strips, 20))))
		from, width, f := beds.Strip(s, 1)
		if e != api.ErrArg || f != api.ErrArg || is || from != 0 || width != 0 {
			t.Error(s, is, e, from, width, f)
		}
	}
	for _, s := range append(impossible(), surveyS()) {
		for _, x := range [][2]int{{-1, 2}, {2, 2}, {3, 2}, {2, 5}, {4, 5}, {math.MinInt, math.MaxInt}} {
			check(s, x[0], x[1], api.ErrArg)
		}
		for _, wide := range []int{-1, 0, 5, math.MaxInt, math.MinInt} {
			if from, width, e := beds.Strip(s, wide); e != api.ErrArg || from != 0 || width != 0 {
				t.Error(s, wide, from, width, e)
			}
		}
	}
	for _, s := range impossible() {
		check(s, 0, 4, api.ErrRule)
		if from, width, e := beds.Strip(s, 1); e != api.ErrRule || from != 0 || width != 0 {
			t.Error(s, from, width, e)
		}
		s.Transects = append(s.Transects, slices.Repeat(s.Transects, 3)...)[:api.BedsTransects]
		check(s, 0, 4, api.ErrRule)
		if from, width, e := beds.Strip(s, 1); e != api.ErrArg || from != 0 || width != 0 {
			t.Error(s, from, width, e)
		}
	}
}

// P1.5: between the bounds lie all layouts, and the first one is at the end
func TestSurveyOfAllLayouts(t *testing.T) {
	r, possible := source(7), 0
	for range 400 {
		s := smallSurvey(r)
		all := layouts(s)
		for from := range s.Strips {
			for to := from + 1; to <= s.Strips; to++ {
				checkCount(t, s, all, from, to)
			}
		}
		for range 10 {
			x := make([]int, s.Strips)
			for i := range x {
				x[i] = r.Intn(s.Most+3) - 1
			}
			lies := slices.ContainsFunc(all, func(y []int) bool { return equal(x, y) })
			if is, e := beds.Lies(s, x); e != api.OK || is != lies {
				t.Fatal(s, x, is, e)
			}
		}
		possible += min(1, len(all))
	}
	if possible < 100 || possible == 400 {
		t.Error(possible)
	}
}

func checkCount(t *testing.T, s api.BedsSurvey, all [][]int, from, to int) {
	t.Helper()
	n, e := beds.Count(s, from, to)
	fewest, f := beds.Layout(s, from, to, false)
	most, g := beds.Layout(s, from, to, true)
	if len(all) == 0 {
		if e != api.ErrRule || f != api.ErrRule || g != api.ErrRule || n != sp(0, 0) || len(fewest)+len(most) > 0 {
			t.Fatal(s, n, e, fewest, f, most, g)
		}
		return
	}
	want := counted(all, from, to)
	first := func(n int) []int {
		return all[slices.IndexFunc(all, func(x []int) bool { return along(x, from, to) == n })]
	}
	if e != api.OK || f != api.OK || g != api.OK || n != want || !equal(fewest, first(want.Low)) || !equal(most, first(want.High)) {
		t.Fatal(s, from, to, n, want, fewest, most)
	}
}

// P1.6
func TestStrip(t *testing.T) {
	for i, x := range []struct {
		s           api.BedsSurvey
		wide        int
		from, width int
	}{
		{surveyS(), 1, 0, 2}, {surveyS(), 2, 2, 2}, {surveyS(), 4, 0, 1},
		{api.BedsSurvey{Strips: 1}, 1, 0, 0},
		{api.BedsSurvey{Strips: 10, Most: 12, Miss: 5}, 10, 0, 5},
		// nine strips are left, or five more are not seen
		{api.BedsSurvey{Strips: 10, Most: 12, Miss: 5}, 1, 0, 113},
		{api.BedsSurvey{Strips: 10, Most: 12, Miss: 0}, 9, 0, 12},
		// the first strip is known already
		{api.BedsSurvey{Strips: 2, Most: 4, Transects: []api.BedsTransect{{From: 0, To: 1, Seen: 2}}}, 1, 1, 0},
	} {
		if from, width, e := beds.Strip(x.s, x.wide); e != api.OK || from != x.from || width != x.width {
			t.Error(i, from, width, e)
		}
	}
}

// P1.6: whatever is seen, all is known so closely, and along no other strips is it less
func TestStripOfAllCourses(t *testing.T) {
	r := source(8)
	for range 200 {
		s := smallSurvey(r)
		if len(layouts(s)) == 0 {
			continue
		}
		for wide := 1; wide <= s.Strips; wide++ {
			at, least := -1, math.MaxInt
			for from := range s.Strips - wide + 1 {
				width := 0
				for seen := range 20 {
					next := s
					next.Transects = append(slices.Clone(s.Transects), api.BedsTransect{From: from, To: from + wide, Seen: seen})
					if all := layouts(next); len(all) > 0 {
						n := counted(all, 0, s.Strips)
						width = max(width, n.High-n.Low)
					}
				}
				if width < least {
					at, least = from, width
				}
			}
			if from, width, e := beds.Strip(s, wide); e != api.OK || from != at || width != least {
				t.Fatal(s, wide, from, width, at, least, e)
			}
		}
	}
}

// P1.10: a transect more never makes bounds wider
func TestTransectMore(t *testing.T) {
	r, possible := source(9), 0
	for range 500 {
		s := api.BedsSurvey{Strips: 1 + r.Intn(10), Most: r.Intn(13), Miss: r.Intn(6)}
		truth := make([]int, s.Strips)
		for i := range truth {
			truth[i] = r.Intn(s.Most + 1)
		}
		was := api.Span{Low: 0, High: s.Strips * s.Most}
		for range api.BedsTransects {
			from := r.Intn(s.Strips)
			to := from + 1 + r.Intn(s.Strips-from)
			s.Transects = append(s.Transects, api.BedsTransect{From: from, To: to, Seen: max(0, along(truth, from, to)-r.Intn(s.Miss+1))})
			n, e := beds.Count(s, 0, s.Strips)
			if e != api.OK || n.Low < was.Low || n.High > was.High || along(truth, 0, s.Strips) < n.Low || along(truth, 0, s.Strips) > n.High {
				t.Fatal(s, truth, n, was, e)
			}
			was = n
			possible++
		}
	}
}
