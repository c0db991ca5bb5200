// Package beds is chapter 1: beds whose sponges grow and are cut, surveys of strips, and sickness that goes with the water; see shared/doc/01-beds.md.
package beds

import "bathyal/api"

// Check returns the error of a ground.
func Check(g api.BedsGround) api.Errno {
	if !within(len(g.Beds), 1, api.BedsFew) || !within(g.Boats, 1, api.BedsFew) || !within(g.Years, 1, api.BedsYears) {
		return api.ErrArg
	}
	for _, b := range g.Beds {
		if !defined(b) {
			return api.ErrArg
		}
	}
	return api.OK
}

// defined reports whether a bed is as defined.
func defined(b api.BedsBed) bool {
	if len(b.Start) != api.BedsClasses {
		return false
	}
	for _, s := range b.Start {
		if !ordered(s, api.BedsPieces) {
			return false
		}
	}
	return ordered(api.Span{Low: b.Low, High: b.High}, api.BedsWhole) &&
		within(b.Full, 0, api.BedsClasses*api.BedsPieces) &&
		within(b.Leave, 0, b.Full) &&
		within(b.Within, 1, api.BedsWithin)
}

// Known returns between which bounds the sponges of each class and of all greater ones lie after some years.
func Known(b api.BedsBed, years int) ([]api.Span, api.Errno) {
	if !defined(b) || !within(years, 0, api.BedsWithin) {
		return nil, api.ErrArg
	}
	a := young(b)
	for range years {
		a = a.year(0)
	}
	numbers := [ends]func(int) int{low: a.least, high: a.greatest}
	spans := make([]api.Span, api.BedsClasses)
	for class := range spans {
		spans[class] = api.Span{Low: numbers[low](class), High: numbers[high](class)}
	}
	return spans, api.OK
}

// May reports whether a cut is lawful.
func May(b api.BedsBed, cut int) (bool, api.Errno) {
	if !defined(b) || cut < 0 {
		return false, api.ErrArg
	}
	return young(b).lawful(cut), api.OK
}

// Most returns the greatest lawful cut.
func Most(b api.BedsBed) (int, api.Errno) {
	if !defined(b) {
		return 0, api.ErrArg
	}
	return young(b).most(), api.OK
}
