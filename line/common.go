package line

import (
	"iter"

	"bathyal/api"
)

// within reports whether a number is from low to high.
func within(n, low, high int) bool { return low <= n && n <= high }

// first returns the first of some things that suits, or false if none does.
func first[T any](things iter.Seq[T], suits func(T) bool) (T, bool) {
	for t := range things {
		if suits(t) {
			return t, true
		}
	}
	var none T
	return none, false
}

// wrongWords is what a talk gives up with that does not have its words.
type wrongWords struct{}

// noLog is what a text gives up with that is no log.
type noLog struct{}

// attempt does something, and returns the error with which it gave up.
func attempt(something func()) (e api.Errno) {
	defer func() {
		switch r := recover().(type) {
		case nil:
		case wrongWords:
			e = api.ErrArg
		case noLog:
			e = api.ErrText
		default:
			panic(r)
		}
	}()
	something()
	return api.OK
}
