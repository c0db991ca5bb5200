package beds

import (
	"iter"

	"bathyal/api"
)

// Survey returns the error of a survey.
func Survey(s api.BedsSurvey) api.Errno {
	if !within(s.Strips, 1, api.BedsStrips) || !within(s.Most, 0, api.BedsDense) || !within(s.Miss, 0, api.BedsMissed) || len(s.Transects) > api.BedsTransects {
		return api.ErrArg
	}
	for _, t := range s.Transects {
		if !strips(s, t.From, t.To) || !within(t.Seen, 0, api.BedsStrips*api.BedsDense) {
			return api.ErrArg
		}
	}
	return api.OK
}

// strips reports whether a survey has the strips from one up to before another one.
func strips(s api.BedsSurvey, from, to int) bool {
	return 0 <= from && from < to && to <= s.Strips
}

// counts returns between which bounds the sponges along a transect lie.
func counts(s api.BedsSurvey, t api.BedsTransect) api.Span {
	return api.Span{Low: t.Seen, High: t.Seen + s.Miss}
}

// Lies reports whether a list is a layout.
func Lies(s api.BedsSurvey, layout []int) (bool, api.Errno) {
	if Survey(s) != api.OK || len(layout) != s.Strips {
		return false, api.ErrArg
	}
	before := make([]int, s.Strips+1)
	for strip, n := range layout {
		if !within(n, 0, s.Most) {
			return false, api.OK
		}
		before[strip+1] = before[strip] + n
	}
	for _, t := range s.Transects {
		may := counts(s, t)
		if !within(before[t.To]-before[t.From], may.Low, may.High) {
			return false, api.OK
		}
	}
	return true, api.OK
}

// places is how many beginnings and ends of strips there are.
const places = api.BedsStrips + 1

// spread is, for any two strips, between which bounds the number of sponges from the one up to before the other one lies; it is negative if the other one comes first. All bounds are as close as what was learned makes them, and each number between them is possible.
type spread [places][places]api.Span

// open returns what is known before all transects.
func open(s api.BedsSurvey) spread {
	var known spread
	for from := range places {
		for to := range places {
			most := (to - from) * s.Most
			known[from][to] = api.Span{Low: min(0, most), High: max(0, most)}
		}
	}
	return known
}

// learn narrows all bounds by those of the strips from one up to before another one. All bounds were as close as they could be, so that going by the new ones once, in either direction, is enough.
func (k *spread) learn(from, to int, by api.Span) {
	back := api.Span{Low: -by.High, High: -by.Low}
	for a := range places {
		for b := range places {
			k[a][b] = narrow(k[a][b], plus(k[a][from], by, k[to][b]), plus(k[a][to], back, k[from][b]))
		}
	}
}

// plus returns between which bounds the sum of some numbers lies.
func plus(spans ...api.Span) api.Span {
	var sum api.Span
	for _, s := range spans {
		sum.Low += s.Low
		sum.High += s.High
	}
	return sum
}

// surveyed returns what is known from a survey, or false if it is not possible.
func surveyed(s api.BedsSurvey) (spread, bool) {
	known := open(s)
	possible := agrees(func() {
		for _, t := range s.Transects {
			known.learn(t.From, t.To, counts(s, t))
		}
	})
	return known, possible
}

// Count returns between which bounds the number of sponges in some strips lies.
func Count(s api.BedsSurvey, from, to int) (api.Span, api.Errno) {
	if Survey(s) != api.OK || !strips(s, from, to) {
		return api.Span{}, api.ErrArg
	}
	known, possible := surveyed(s)
	if !possible {
		return api.Span{}, api.ErrRule
	}
	return known[from][to], api.OK
}

// Layout returns the first layout in which the number of sponges in some strips is at an end.
func Layout(s api.BedsSurvey, from, to int, high bool) ([]int, api.Errno) {
	if Survey(s) != api.OK || !strips(s, from, to) {
		return nil, api.ErrArg
	}
	known, possible := surveyed(s)
	if !possible {
		return nil, api.ErrRule
	}
	n := known[from][to].Low
	if high {
		n = known[from][to].High
	}
	known.learn(from, to, api.Span{Low: n, High: n})
	layout := make([]int, s.Strips)
	for strip := range layout {
		fewest := known[strip][strip+1].Low
		known.learn(strip, strip+1, api.Span{Low: fewest, High: fewest})
		layout[strip] = fewest
	}
	return layout, api.OK
}

// course is where a transect can be run next, and its worst width.
type course struct {
	from  int
	width int
}

// courses yields all courses along wide strips, from the first strip on.
func courses(s api.BedsSurvey, known spread, wide int) iter.Seq[course] {
	return func(yield func(course) bool) {
		for from := range s.Strips - wide + 1 {
			if !yield(course{from: from, width: worst(s, known, from, from+wide)}) {
				return
			}
		}
	}
}

// worst returns the worst width of a transect that is run next.
func worst(s api.BedsSurvey, known spread, from, to int) int {
	width := 0
	for seen := range known[from][to].High + 1 {
		next := known
		possible := agrees(func() {
			next.learn(from, to, counts(s, api.BedsTransect{From: from, To: to, Seen: seen}))
		})
		if possible {
			all := next[0][s.Strips]
			width = max(width, all.High-all.Low)
		}
	}
	return width
}

// Strip returns where to run the next transect, and its worst width.
func Strip(s api.BedsSurvey, wide int) (int, int, api.Errno) {
	if Survey(s) != api.OK || len(s.Transects) == api.BedsTransects || !within(wide, 1, s.Strips) {
		return 0, 0, api.ErrArg
	}
	known, possible := surveyed(s)
	if !possible {
		return 0, 0, api.ErrRule
	}
	next, _ := best(courses(s, known, wide), func(a, b course) bool { return a.width < b.width })
	return next.from, next.width, api.OK
}
