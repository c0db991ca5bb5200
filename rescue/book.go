package rescue

import (
	"iter"
	"slices"

	"bathyal/api"
)

// Rule returns the error of a rule.
func Rule(r api.RescueRule) api.Errno {
	switch {
	case !within(r.Step, 1, api.RescueDepth), !within(r.Rest, 0, api.RescueDays):
	case !isDepth(r.Deep), !within(r.Window, 1, api.RescueDays), !within(r.Run, 1, api.RescueEntries):
	default:
		return api.OK
	}
	return api.ErrArg
}

// isDay reports whether a number is that of a day.
func isDay(day int) bool { return within(day, 0, api.RescueDays) }

// isDepth reports whether a number is a depth.
func isDepth(depth int) bool { return within(depth, 0, api.RescueDepth) }

// event is what an entry of a book is about.
type event interface {
	// word returns the word with which the line of the entry begins.
	word() string
}

// The events.
type (
	lesson struct{}
	dive   struct{ depth int }
	pain   struct{}
	test   struct{}
)

func (lesson) word() string { return "lesson" }

func (dive) word() string { return "dive" }

func (pain) word() string { return "pain" }

func (test) word() string { return "test" }

// eventOf returns what an entry is about, or nil if its kind does not exist.
func eventOf(e api.RescueEntry) event {
	switch e.Kind {
	case api.RescueLesson:
		return lesson{}
	case api.RescueDive:
		return dive{e.Depth}
	case api.RescuePain:
		return pain{}
	case api.RescueTest:
		return test{}
	}
	return nil
}

// isEntry reports whether an entry is as defined.
func isEntry(e api.RescueEntry) bool {
	deepest := 0
	switch eventOf(e).(type) {
	case nil:
		return false
	case dive:
		deepest = api.RescueDepth
	}
	return within(e.Depth, 0, deepest) && isWhen(e.Day)
}

// isWhen reports whether the days of an entry are as defined.
func isWhen(s api.Span) bool {
	return isDay(s.Low) && isDay(s.High) && within(s.High-s.Low, 0, api.RescueWide)
}

// isBook reports whether a book is as defined.
func isBook(book []api.RescueEntry) bool {
	return len(book) <= api.RescueEntries && all(book, isEntry)
}

// following returns the days that can follow those of the first entries of a book, in truth.
func following(book []api.RescueEntry, before []int) []int {
	entry := len(before)
	return numbers(book[entry].Day, func(day int) bool { return entry == 0 || day >= before[entry-1] })
}

// truths yields all truths of a book, in lexicographic order.
func truths(book []api.RescueEntry) iter.Seq[[]int] {
	isWhole := func(days []int) bool { return len(days) == len(book) }
	return lists(isWhole, func(before []int) []int { return following(book, before) })
}

// isTruth reports whether days, one for each entry, are a truth of a book.
func isTruth(book []api.RescueEntry, days []int) bool {
	for entry, day := range days {
		if !slices.Contains(following(book, days[:entry]), day) {
			return false
		}
	}
	return true
}

// Fits reports whether days are a truth of a book.
func Fits(book []api.RescueEntry, days []int) (bool, api.Errno) {
	if !isBook(book) || len(days) != len(book) || !all(days, isDay) {
		return false, api.ErrArg
	}
	return isTruth(book, days), api.OK
}
