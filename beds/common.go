package beds

import (
	"iter"

	"bathyal/api"
)

// within reports whether a number is from low to high.
func within(n, low, high int) bool { return low <= n && n <= high }

// ordered reports whether a span lies between 0 and a limit, and its ends are in order.
func ordered(s api.Span, limit int) bool {
	return within(s.Low, 0, s.High) && s.High <= limit
}

// best returns the first of some things that no other one betters, or false if there are none.
func best[T any](things iter.Seq[T], betters func(a, b T) bool) (T, bool) {
	var found T
	some := false
	for t := range things {
		if !some || betters(t, found) {
			found, some = t, true
		}
	}
	return found, some
}

// contradiction is what narrow gives up with.
type contradiction struct{}

// narrow returns what several bounds of one number leave, and gives up if they contradict each other.
func narrow(s api.Span, more ...api.Span) api.Span {
	for _, m := range more {
		s.Low, s.High = max(s.Low, m.Low), min(s.High, m.High)
	}
	if s.Low > s.High {
		panic(contradiction{})
	}
	return s
}

// agrees narrows bounds, and reports whether they do not contradict each other.
func agrees(narrowing func()) (agreed bool) {
	defer func() {
		r := recover()
		if _, ok := r.(contradiction); r != nil && !ok {
			panic(r)
		}
	}()
	narrowing()
	return true
}
