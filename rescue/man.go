package rescue

import (
	"slices"

	"bathyal/api"
)

// The things that can be lacking.
const (
	noLessons = iota
	noRest
	noTest
	noPause
	things
)

// record is what counts of a book for a dive on a day at a depth, by a rule and in truth.
type record struct {
	api.RescueRule
	day, depth int

	lessons int
	deep    int // how many deep dives were on the last days before
	pained  bool
	pain    int  // the day of the last pain
	tested  bool // whether there is a test after the last pain
}

// add adds what was on an earlier day to a record.
//
// Days of a book do not decrease: a test of a later day than the last pain is one of a later day than all of them.
func (r *record) add(e event, day int) {
	switch e := e.(type) {
	case lesson:
		r.lessons++
	case dive:
		if e.depth >= r.Deep && day >= r.day-r.Window {
			r.deep++
		}
	case pain:
		r.pained, r.pain, r.tested = true, day, false
	case test:
		r.tested = r.tested || day > r.pain
	}
}

// lacksLessons reports whether there are too few lessons for the depth.
func (r *record) lacksLessons() bool { return r.lessons*r.Step < r.depth }

// lacksRest reports whether there are too few days since the last pain.
func (r *record) lacksRest() bool { return r.pained && r.day-r.pain < r.Rest }

// lacksTest reports whether there is no test after a pain.
func (r *record) lacksTest() bool { return r.pained && !r.tested }

// lacksPause reports whether the dive would be one deep dive too many.
func (r *record) lacksPause() bool { return r.depth >= r.Deep && r.deep >= r.Run }

// lacking returns what is lacking, in increasing order.
func (r *record) lacking() []int {
	var l []int
	for thing, lacks := range [things]func() bool{noLessons: r.lacksLessons, noRest: r.lacksRest, noTest: r.lacksTest, noPause: r.lacksPause} {
		if lacks() {
			l = append(l, thing)
		}
	}
	return l
}

// lacking returns what a man of a book lacks for a dive on a day at a depth, in truth.
func lacking(r api.RescueRule, book []api.RescueEntry, days []int, day, depth int) []int {
	x := record{RescueRule: r, day: day, depth: depth}
	for i, e := range book {
		if days[i] < day {
			x.add(eventOf(e), days[i])
		}
	}
	return x.lacking()
}

// May reports whether a man may dive on a day at a depth, in truth.
func May(r api.RescueRule, book []api.RescueEntry, days []int, day, depth int) (bool, api.Errno) {
	if is, e := Fits(book, days); e != api.OK || !is || Rule(r) != api.OK || !isDay(day) || !isDepth(depth) {
		return false, api.ErrArg
	}
	return len(lacking(r, book, days, day, depth)) == 0, api.OK
}

// man is a man with a rule and a book, and all truths of the book.
type man struct {
	rule   api.RescueRule
	book   []api.RescueEntry
	truths [][]int
}

// manOf returns a man with a rule and a book that are as defined, or the error of a book that is not possible.
func manOf(r api.RescueRule, book []api.RescueEntry) (man, api.Errno) {
	m := man{r, book, slices.Collect(truths(book))}
	if len(m.truths) == 0 {
		return man{}, api.ErrRule
	}
	return m, api.OK
}

// asked returns a man of whom it is asked what he may on a day and at a depth, or the error of that.
func asked(r api.RescueRule, book []api.RescueEntry, day, depth int) (man, api.Errno) {
	if Rule(r) != api.OK || !isBook(book) || !isDay(day) || !isDepth(depth) {
		return man{}, api.ErrArg
	}
	return manOf(r, book)
}

// may returns a function that reports whether a man may dive on a day at a depth, in truth.
func (m man) may(day, depth int) func(days []int) bool {
	return func(days []int) bool { return len(lacking(m.rule, m.book, days, day, depth)) == 0 }
}

// surely reports whether a man surely may dive on a day at a depth.
func (m man) surely(day, depth int) bool { return all(m.truths, m.may(day, depth)) }

// Known returns what is known of whether a man may dive on a day at a depth.
func Known(r api.RescueRule, book []api.RescueEntry, day, depth int) (api.RescueWord, api.Errno) {
	m, e := asked(r, book, day, depth)
	switch {
	case e != api.OK:
		return 0, e
	case m.surely(day, depth):
		return api.RescueSurely, api.OK
	case slices.ContainsFunc(m.truths, m.may(day, depth)):
		return api.RescueMay, api.OK
	}
	return api.RescueNever, api.OK
}

// Lacks returns what is lacking in some truth.
func Lacks(r api.RescueRule, book []api.RescueEntry, day, depth int) ([]int, api.Errno) {
	m, e := asked(r, book, day, depth)
	if e != api.OK {
		return nil, e
	}
	var l []int
	for _, days := range m.truths {
		l = append(l, lacking(r, book, days, day, depth)...)
	}
	slices.Sort(l)
	return slices.Compact(l), api.OK
}

// Deepest returns the greatest depth at which a man surely may dive on a day.
func Deepest(r api.RescueRule, book []api.RescueEntry, day int) (int, api.Errno) {
	m, e := asked(r, book, day, 0)
	if e != api.OK {
		return 0, e
	}
	for depth := api.RescueDepth; depth >= 0; depth-- {
		if m.surely(day, depth) {
			return depth, api.OK
		}
	}
	return 0, api.ErrNone
}

// When returns the first day on which a man surely may dive at a depth.
func When(r api.RescueRule, book []api.RescueEntry, from, depth int) (int, api.Errno) {
	m, e := asked(r, book, from, depth)
	if e != api.OK {
		return 0, e
	}
	for day := from; day <= api.RescueDays; day++ {
		if m.surely(day, depth) {
			return day, api.OK
		}
	}
	return 0, api.ErrNone
}
