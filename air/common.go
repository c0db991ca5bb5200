package air

import (
	"iter"
	"slices"

	"bathyal/api"
)

// none stands for the crew of a pump that has none.
const none = -1

// within reports whether a number is from low to high.
func within(n, low, high int) bool { return low <= n && n <= high }

// in reports whether a number lies in a span.
func in(n int, s api.Span) bool { return within(n, s.Low, s.High) }

// ordered reports whether a span lies from low to high, and its ends are in order.
func ordered(s api.Span, low, high int) bool {
	return within(s.Low, low, s.High) && s.High <= high
}

// defined reports whether there are 1 to so many things, and each is as defined.
func defined[T any](things []T, many int, is func(T) bool) bool {
	isNot := func(t T) bool { return !is(t) }
	return within(len(things), 1, many) && !slices.ContainsFunc(things, isNot)
}

// best returns the first of some things that suit which no other one of them betters, or false if none suits. Only of what would be better is it asked whether it suits.
func best[T any](things iter.Seq[T], suits func(T) bool, betters func(a, b T) bool) (T, bool) {
	var found T
	some := false
	for t := range things {
		if (!some || betters(t, found)) && suits(t) {
			found, some = t, true
		}
	}
	return found, some
}

// with returns a list with one thing more, which shares no memory with the list.
func with[T any](list []T, t T) []T { return append(slices.Clone(list), t) }

// wrongPost is what a post gives up with that is not as defined.
type wrongPost struct{}

// noSheet is what a text gives up with that is no sheet.
type noSheet struct{}

// attempt does something, and returns the error with which it gave up.
func attempt(something func()) (e api.Errno) {
	defer func() {
		switch r := recover().(type) {
		case nil:
		case wrongPost:
			e = api.ErrArg
		case noSheet:
			e = api.ErrText
		default:
			panic(r)
		}
	}()
	something()
	return api.OK
}
