package loft

import (
	"iter"

	"bathyal/api"
)

// areStrings reports whether some strings are as defined.
func areStrings(l []api.LoftString) bool {
	if len(l) > api.LoftItems {
		return false
	}
	for _, s := range l {
		if !within(s.Grade, 0, api.LoftMany-1) || !ordered(s.Weight, api.LoftWeight) {
			return false
		}
	}
	return true
}

// isPacking reports whether a packing of so many strings is as defined.
func isPacking(packing []int, strings int) bool {
	if len(packing) != strings {
		return false
	}
	next := 0
	for _, bale := range packing {
		if !within(bale, 0, next) {
			return false
		}
		next = max(next, bale+1)
	}
	return true
}

// areBaled reports whether some strings, and a packing of them, are as defined.
func areBaled(l []api.LoftString, packing []int) bool {
	return areStrings(l) && isPacking(packing, len(l))
}

// isLimit reports whether a limit is as defined.
func isLimit(limit int) bool { return within(limit, 1, api.LoftLimit) }

// balesOf returns the strings of each bale of a packing.
func balesOf(l []api.LoftString, packing []int) [][]api.LoftString {
	var bales [][]api.LoftString
	for i, bale := range packing {
		if bale == len(bales) {
			bales = append(bales, nil)
		}
		bales[bale] = append(bales[bale], l[i])
	}
	return bales
}

// weightOf returns the weight of a bale.
func weightOf(bale []api.LoftString) api.Span {
	var weights []api.Span
	for _, s := range bale {
		weights = append(weights, s.Weight)
	}
	return sum(weights...)
}

// isMixed reports whether strings of a bale have different grades.
func isMixed(bale []api.LoftString) bool {
	for _, s := range bale {
		if s.Grade != bale[0].Grade {
			return true
		}
	}
	return false
}

// suits reports whether a packing suits a limit.
func suits(l []api.LoftString, limit int, packing []int) bool {
	for _, bale := range balesOf(l, packing) {
		if isMixed(bale) || weightOf(bale).High > limit {
			return false
		}
	}
	return true
}

// packed is a packing with the number of its bales.
type packed struct {
	packing []int
	bales   int
}

// packings yields all packings of strings that suit a limit, in lexicographic order.
func packings(l []api.LoftString, limit int) iter.Seq[packed] {
	return func(yield func(packed) bool) {
		var extend func(p packed) bool
		extend = func(p packed) bool {
			if len(p.packing) == len(l) {
				return !suits(l, limit, p.packing) || yield(p)
			}
			for bale := range p.bales + 1 {
				if !extend(packed{with(p.packing, bale), max(p.bales, bale+1)}) {
					return false
				}
			}
			return true
		}
		extend(packed{})
	}
}

// Packs reports whether a packing suits.
func Packs(l []api.LoftString, limit int, packing []int) (bool, api.Errno) {
	if !areBaled(l, packing) || !isLimit(limit) {
		return false, api.ErrArg
	}
	return suits(l, limit, packing), api.OK
}

// Weigh returns between which bounds the weight of each bale lies.
func Weigh(l []api.LoftString, packing []int) ([]api.Span, api.Errno) {
	if !areBaled(l, packing) {
		return nil, api.ErrArg
	}
	var weights []api.Span
	for _, bale := range balesOf(l, packing) {
		weights = append(weights, weightOf(bale))
	}
	return weights, api.OK
}

// Pack returns the best packing, and the number of its bales.
func Pack(l []api.LoftString, limit int) ([]int, int, api.Errno) {
	if !areStrings(l) || !isLimit(limit) {
		return nil, 0, api.ErrArg
	}
	found, some := best(packings(l, limit), func(a, b packed) bool { return a.bales < b.bales })
	if !some {
		return nil, 0, api.ErrNone
	}
	return found.packing, found.bales, api.OK
}
