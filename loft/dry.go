package loft

import (
	"iter"
	"sort"

	"bathyal/api"
)

// isWeighing reports whether a weighing is as defined.
func isWeighing(w api.LoftWeighing) bool {
	return within(w.Weight, 1, api.LoftWeight) && ordered(w.Wet, api.LoftWet) && within(w.Off, 0, api.LoftOff)
}

// areWeighings reports whether weighings of one string are as defined.
func areWeighings(l []api.LoftWeighing) bool {
	if !within(len(l), 1, api.LoftWeighings) {
		return false
	}
	for _, w := range l {
		if !isWeighing(w) {
			return false
		}
	}
	return true
}

// left returns what a weight leaves without so many parts of a hundred.
func left(weight, water int) int { return weight * (100 - water) / 100 }

// allows reports whether a dry weight is possible for a weighing. As more water never leaves more, the least water that does not leave too much leaves the most of all that do not.
func allows(w api.LoftWeighing, dry int) bool {
	waters := w.Wet.High - w.Wet.Low + 1
	more := sort.Search(waters, func(more int) bool { return left(w.Weight, w.Wet.Low+more) <= dry+w.Off })
	return more < waters && left(w.Weight, w.Wet.Low+more) >= dry-w.Off
}

// allowed yields the dry weights that are possible for all weighings, in increasing order.
func allowed(l []api.LoftWeighing) iter.Seq[int] {
	return func(yield func(int) bool) {
	search:
		for dry := range api.LoftWeight + 1 {
			for _, w := range l {
				if !allows(w, dry) {
					continue search
				}
			}
			if !yield(dry) {
				return
			}
		}
	}
}

// bounds returns the least and the greatest dry weight that is possible for all weighings, and gives up if there is none.
func bounds(l []api.LoftWeighing) api.Span {
	var found api.Span
	some := false
	for dry := range allowed(l) {
		if !some {
			found.Low = dry
		}
		found.High, some = dry, true
	}
	if !some {
		panic(contradiction{})
	}
	return found
}

// Dry returns the least and the greatest dry weight that is possible.
func Dry(l []api.LoftWeighing) (api.Span, api.Errno) {
	if !areWeighings(l) {
		return api.Span{}, api.ErrArg
	}
	var found api.Span
	e := attempt(func() { found = bounds(l) })
	return found, e
}
