package share

import (
	"iter"
	"slices"

	"bathyal/api"
)

// within reports whether a number is from low to high.
func within(n, low, high int) bool { return low <= n && n <= high }

// has reports whether a number belongs to a set.
func has(set, number int) bool { return set>>number&1 == 1 }

// isSet reports whether something is a set of some of so many numbers.
func isSet(set, many int) bool { return within(set, 0, 1<<many-1) }

// members returns the numbers that belong to a set, in increasing order.
func members(set int) []int {
	var members []int
	for number := 0; set>>number > 0; number++ {
		if has(set, number) {
			members = append(members, number)
		}
	}
	return members
}

// upTo returns the numbers from 0 on, so many of them.
func upTo(many int) []int { return members(1<<many - 1) }

// lists yields all lists of some of increasing numbers, in lexicographic order.
func lists(numbers []int) iter.Seq[[]int] {
	return func(yield func([]int) bool) {
		var extend func(list, rest []int) bool
		extend = func(list, rest []int) bool {
			if !yield(list) {
				return false
			}
			for i, n := range rest {
				if !extend(with(list, n), rest[i+1:]) {
					return false
				}
			}
			return true
		}
		extend(nil, numbers)
	}
}

// with returns a list with one number more, which shares no memory with the list.
func with(list []int, number int) []int { return append(slices.Clone(list), number) }

// sum returns the sum of some numbers.
func sum(numbers ...int) int {
	all := 0
	for _, n := range numbers {
		all += n
	}
	return all
}

// best returns the first of some things which no other one of them betters, or false if there is none.
func best[T any](things iter.Seq[T], betters func(a, b T) bool) (T, bool) {
	var found T
	some := false
	for t := range things {
		if !some || betters(t, found) {
			found, some = t, true
		}
	}
	return found, some
}

// noSeason is what a text gives up with that is not one of a season.
type noSeason struct{}

// attempt does something, and returns the error with which it gave up.
func attempt(something func()) (e api.Errno) {
	defer func() {
		switch r := recover().(type) {
		case nil:
		case noSeason:
			e = api.ErrText
		default:
			panic(r)
		}
	}()
	something()
	return api.OK
}
