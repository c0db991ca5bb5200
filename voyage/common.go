package voyage

import (
	"slices"

	"bathyal/api"
)

// within reports whether a number is from low to high.
func within(n, low, high int) bool { return low <= n && n <= high }

// has reports whether a number belongs to a set.
func has(set, number int) bool { return set>>number&1 == 1 }

// isSome reports whether something is a set of some of so many numbers, of one at least.
func isSome(set, many int) bool { return within(set, 1, 1<<many-1) }

// all reports whether all things are as is asked.
func all[T any](things []T, is func(T) bool) bool {
	return !slices.ContainsFunc(things, func(t T) bool { return !is(t) })
}

// best returns the first of some things which no other one of them betters, or false if there is none.
func best[T any](things []T, betters func(a, b T) bool) (T, bool) {
	var found T
	for i, t := range things {
		if i == 0 || betters(t, found) {
			found = t
		}
	}
	return found, len(things) > 0
}

// broken is what orders give up with that do not keep.
type broken struct{}

// noOrders is what a text gives up with that is none of orders.
type noOrders struct{}

// attempt does something, and returns the error with which it gave up.
func attempt(something func()) (e api.Errno) {
	defer func() {
		switch r := recover().(type) {
		case nil:
		case broken:
			e = api.ErrRule
		case noOrders:
			e = api.ErrText
		default:
			panic(r)
		}
	}()
	something()
	return api.OK
}
