package market

import (
	"iter"
	"slices"

	"bathyal/api"
)

// hundred is the parts of a whole in which rates and shades are told.
const hundred = 100

// within reports whether a number is from low to high.
func within(n, low, high int) bool { return low <= n && n <= high }

// ordered reports whether a span lies from 0 to high, and its ends are in order.
func ordered(s api.Span, high int) bool {
	return within(s.Low, 0, s.High) && s.High <= high
}

// without returns a number less so many parts of a hundred of it.
func without(n, parts int) int { return n * (hundred - parts) / hundred }

// all reports whether all things are as is asked.
func all[T any](things []T, is func(T) bool) bool {
	return !slices.ContainsFunc(things, func(t T) bool { return !is(t) })
}

// best returns the first of some things which no other one of them betters, or false if there is none.
func best[T any](things iter.Seq[T], betters func(a, b T) bool) (T, bool) {
	var found T
	some := false
	for t := range things {
		if !some || betters(t, found) {
			found, some = t, true
		}
	}
	return found, some
}

// narrowed returns the numbers that lie in a span and in all others, and gives up if there is none.
func narrowed(s api.Span, others ...api.Span) api.Span {
	for _, other := range others {
		s = api.Span{Low: max(s.Low, other.Low), High: min(s.High, other.High)}
	}
	if s.Low > s.High {
		panic(contradiction{})
	}
	return s
}

// contradiction is what bounds give up with that leave no number.
type contradiction struct{}

// noNote is what a text gives up with that is none.
type noNote struct{}

// attempt does something, and returns the error with which it gave up.
func attempt(something func()) (e api.Errno) {
	defer func() {
		switch r := recover().(type) {
		case nil:
		case contradiction:
			e = api.ErrRule
		case noNote:
			e = api.ErrText
		default:
			panic(r)
		}
	}()
	something()
	return api.OK
}
