package captain

import (
	"iter"

	"bathyal/api"
)

// within reports whether a number is from low to high.
func within(n, low, high int) bool { return low <= n && n <= high }

// sum returns the sum of some numbers.
func sum(numbers ...int) int {
	total := 0
	for _, n := range numbers {
		total += n
	}
	return total
}

// ends returns both ends of some spans.
func ends(spans ...api.Span) []int {
	var numbers []int
	for _, s := range spans {
		numbers = append(numbers, s.Low, s.High)
	}
	return numbers
}

// last returns the last of some things, or false if there is none.
func last[T any](things iter.Seq[T]) (T, bool) {
	var found T
	some := false
	for t := range things {
		found, some = t, true
	}
	return found, some
}

// refusal is what an act gives up with that is not allowed, and a question that has no answer.
type refusal struct{ e api.Errno }

// noLine is what a line gives up with that is none of an act or of a question.
type noLine struct{ e api.Errno }

// insist gives up with an error if something is not so.
func insist(is bool, e api.Errno) {
	if !is {
		panic(refusal{e})
	}
}

// attempt does something, and returns the error with which it gave up.
func attempt(something func()) (e api.Errno) {
	defer func() {
		switch r := recover().(type) {
		case nil:
		case refusal:
			e = r.e
		case noLine:
			e = r.e
		default:
			panic(r)
		}
	}()
	something()
	return api.OK
}
