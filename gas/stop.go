package gas

import (
	"iter"

	"bathyal/api"
)

// rest returns a stage of just some minutes at the surface.
func rest(minutes int) api.GasStage { return api.GasStage{Minutes: just(minutes)} }

// staying returns a stage of just some minutes.
func staying(depth api.Span, minutes int) api.GasStage {
	return api.GasStage{Depth: depth, Minutes: just(minutes)}
}

// latest returns the greatest number of minutes such that something holds for each number up to it, or ErrNone if it does not even hold for 0.
func latest(holds func(minutes int) bool) (int, api.Errno) {
	last, e := 0, api.ErrNone
	for minutes := range api.GasStay + 1 {
		if !holds(minutes) {
			break
		}
		last, e = minutes, api.OK
	}
	return last, e
}

// Limit returns how long a man can stay at a depth without a stop.
func Limit(t api.GasTable, m api.GasMan, depth api.Span) (int, api.Errno) {
	if !defined(t, m, nil, 0) || !deep(depth) {
		return 0, api.ErrArg
	}
	f := begin(t, m)
	return latest(func(minutes int) bool { return f.stay(staying(depth, minutes)).safe() })
}

// Wait returns the fewest minutes of rest between two dives.
func Wait(t api.GasTable, m api.GasMan, dive, next []api.GasStage) (int, api.Errno) {
	if !defined(t, m, dive, 1+len(next)) || !diveable(next, 0) {
		return 0, api.ErrArg
	}
	f := begin(t, m).follow(dive)
	if !f.safe() {
		return 0, api.ErrRule
	}
	for minutes := range api.GasRest + 1 {
		if f.stay(rest(minutes)).follow(next).safe() {
			return minutes, api.OK
		}
	}
	return 0, api.ErrNone
}

// stops yields, for each of some depths, the stop with the fewest minutes with which the dive surely keeps the limits, if there is one.
func (f followed) stops(depths []int) iter.Seq[api.GasStop] {
	try := func(depth int) (api.GasStop, bool) {
		at := f.enter(depth)
		if !at.kept {
			return api.GasStop{}, false
		}
		for minutes := range api.GasLongest {
			at = at.pass(staying(just(depth), 1))
			if at.safe() {
				return api.GasStop{Depth: depth, Minutes: minutes + 1}, true
			}
		}
		return api.GasStop{}, false
	}
	return func(yield func(api.GasStop) bool) {
		for _, depth := range depths {
			if s, helps := try(depth); helps && !yield(s) {
				return
			}
		}
	}
}

// stop returns the best stop after the dive, or false if there is none.
func (f followed) stop() (api.GasStop, bool) {
	if f.safe() {
		return api.GasStop{}, true
	}
	return best(f.stops(f.Stops), func(a, b api.GasStop) bool { return a.Minutes < b.Minutes })
}

// Stop returns the best stop after a dive.
func Stop(t api.GasTable, m api.GasMan, dive []api.GasStage) (api.GasStop, api.Errno) {
	if !defined(t, m, dive, 1) {
		return api.GasStop{}, api.ErrArg
	}
	s, some := begin(t, m).follow(dive).stop()
	if !some {
		return api.GasStop{}, api.ErrNone
	}
	return s, api.OK
}

// Moment returns the latest moment up to which a stop helps, and the best stop then.
func Moment(t api.GasTable, m api.GasMan, dive []api.GasStage, depth api.Span) (int, api.GasStop, api.Errno) {
	if !defined(t, m, dive, 2) || !deep(depth) {
		return 0, api.GasStop{}, api.ErrArg
	}
	f := begin(t, m).follow(dive)
	var last api.GasStop
	minutes, e := latest(func(minutes int) bool {
		s, some := f.stay(staying(depth, minutes)).stop()
		if some {
			last = s
		}
		return some
	})
	return minutes, last, e
}

// Chamber returns the best chamber after a dive and a delay.
func Chamber(t api.GasTable, m api.GasMan, dive []api.GasStage, delay api.Span) (api.GasStop, api.Errno) {
	if !defined(t, m, dive, 2) || !long(delay) {
		return api.GasStop{}, api.ErrArg
	}
	f := begin(t, m).follow(dive).stay(api.GasStage{Minutes: delay})
	f.kept = true // a chamber helps whatever was before
	s, some := best(f.stops(chambers()), func(a, b api.GasStop) bool { return a.Depth < b.Depth })
	if !some {
		return api.GasStop{}, api.ErrNone
	}
	return s, api.OK
}

// chambers returns all depths that a chamber can have.
func chambers() []int {
	var depths []int
	for depth := range api.GasDepth {
		depths = append(depths, depth+1)
	}
	return depths
}
