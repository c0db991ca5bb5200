package loft

import (
	"iter"
	"slices"

	"bathyal/api"
)

// within reports whether a number is from low to high.
func within(n, low, high int) bool { return low <= n && n <= high }

// in reports whether a number lies in a span.
func in(n int, s api.Span) bool { return within(n, s.Low, s.High) }

// ordered reports whether a span lies from 0 to high, and its ends are in order.
func ordered(s api.Span, high int) bool {
	return within(s.Low, 0, s.High) && s.High <= high
}

// numbers yields the numbers of a span.
func numbers(s api.Span) iter.Seq[int] {
	return func(yield func(int) bool) {
		for n := s.Low; n <= s.High; n++ {
			if !yield(n) {
				return
			}
		}
	}
}

// has reports whether a number belongs to a set.
func has(set, number int) bool { return set>>number&1 == 1 }

// isSome reports whether something is a set of some of so many numbers, of one at least.
func isSome(set, many int) bool { return within(set, 1, 1<<many-1) }

// with returns a list with one number more, which shares no memory with the list.
func with(list []int, number int) []int { return append(slices.Clone(list), number) }

// sum returns the sum of some weights.
func sum(weights ...api.Span) api.Span {
	var all api.Span
	for _, w := range weights {
		all.Low += w.Low
		all.High += w.High
	}
	return all
}

// best returns the first of some things which no other one of them betters, or false if there is none.
func best[T any](things iter.Seq[T], betters func(a, b T) bool) (T, bool) {
	var found T
	some := false
	for t := range things {
		if !some || betters(t, found) {
			found, some = t, true
		}
	}
	return found, some
}

// contradiction is what weighings give up with that contradict each other.
type contradiction struct{}

// noBook is what a text gives up with that is no book.
type noBook struct{}

// attempt does something, and returns the error with which it gave up.
func attempt(something func()) (e api.Errno) {
	defer func() {
		switch r := recover().(type) {
		case nil:
		case contradiction:
			e = api.ErrRule
		case noBook:
			e = api.ErrText
		default:
			panic(r)
		}
	}()
	something()
	return api.OK
}
