package rescue

import (
	"iter"
	"slices"

	"bathyal/api"
)

// within reports whether a number is from low to high.
func within(n, low, high int) bool { return low <= n && n <= high }

// less reports whether a number is less than another one.
func less(a, b int) bool { return a < b }

// sum returns the sum of some minutes.
func sum(minutes ...int) int {
	total := 0
	for _, n := range minutes {
		total += n
	}
	return total
}

// all reports whether all things are as is asked.
func all[T any](things []T, is func(T) bool) bool {
	return !slices.ContainsFunc(things, func(t T) bool { return !is(t) })
}

// defined reports whether there are 1 to so many things, and each is as defined.
func defined[T any](things []T, many int, is func(T) bool) bool {
	return within(len(things), 1, many) && all(things, is)
}

// best returns the first of some things which no other one of them betters, or false if there is none.
func best[T any](things iter.Seq[T], betters func(a, b T) bool) (T, bool) {
	var found T
	some := false
	for t := range things {
		if !some || betters(t, found) {
			found, some = t, true
		}
	}
	return found, some
}

// numbers returns the numbers of a span that are as is asked, in increasing order.
func numbers(s api.Span, is func(n int) bool) []int {
	var l []int
	for n := s.Low; n <= s.High; n++ {
		if is(n) {
			l = append(l, n)
		}
	}
	return l
}

// lists yields all lists that are whole, in lexicographic order. Each number of a list is one of those that can follow the ones before it, which are given in increasing order.
func lists(isWhole func(list []int) bool, following func(before []int) []int) iter.Seq[[]int] {
	return func(yield func([]int) bool) {
		var extend func(list []int) bool
		extend = func(list []int) bool {
			if isWhole(list) {
				return yield(list)
			}
			for _, n := range following(list) {
				if !extend(append(slices.Clone(list), n)) {
					return false
				}
			}
			return true
		}
		extend(nil)
	}
}

// noWay is what a way gives up with that is not there.
type noWay struct{}

// noBook is what a text gives up with that is none of a book.
type noBook struct{}

// attempt does something, and returns the error with which it gave up.
func attempt(something func()) (e api.Errno) {
	defer func() {
		switch r := recover().(type) {
		case nil:
		case noWay:
			e = api.ErrNone
		case noBook:
			e = api.ErrText
		default:
			panic(r)
		}
	}()
	something()
	return api.OK
}
