package gas

import (
	"iter"

	"bathyal/api"
)

// within reports whether a number is from low to high.
func within(n, low, high int) bool { return low <= n && n <= high }

// ordered reports whether a span lies from low to high, with its ends in order, and the one at most so much more than the other.
func ordered(s api.Span, low, high, wide int) bool {
	return within(s.Low, low, s.High) && s.High <= high && s.High-s.Low <= wide
}

// just returns the span of one number.
func just(n int) api.Span { return api.Span{Low: n, High: n} }

// best returns the first of some things that no other one betters, or false if there are none.
func best[T any](things iter.Seq[T], betters func(a, b T) bool) (T, bool) {
	var found T
	some := false
	for t := range things {
		if !some || betters(t, found) {
			found, some = t, true
		}
	}
	return found, some
}

// nothing is what gauges give up with that leave nothing open.
type nothing struct{}

// noSlip is what a text gives up with that is no slip.
type noSlip struct{}

// attempt does something, and returns the error with which it gave up.
func attempt(something func()) (e api.Errno) {
	defer func() {
		switch r := recover().(type) {
		case nil:
		case nothing:
			e = api.ErrRule
		case noSlip:
			e = api.ErrText
		default:
			panic(r)
		}
	}()
	something()
	return api.OK
}
