package beds

import (
	"iter"

	"bathyal/api"
)

// never stands for the day of a bed that does not fall sick: it is later than all days, and needs no cause.
const never = api.BedsDays + 1

// Water returns the error of a water.
func Water(w api.BedsWater) api.Errno {
	if !within(len(w.Warm), 1, api.BedsMany) || !within(w.Wait, 1, api.BedsDays) || len(w.Ways) > api.BedsWays || len(w.Looks) > api.BedsLooks {
		return api.ErrArg
	}
	for _, day := range w.Warm {
		if !within(day, -1, api.BedsDays) {
			return api.ErrArg
		}
	}
	for _, way := range w.Ways {
		if !has(w, way.From) || !has(w, way.To) || way.From == way.To {
			return api.ErrArg
		}
	}
	for _, look := range w.Looks {
		if !has(w, look.Bed) || !within(look.Day, 0, api.BedsDays) {
			return api.ErrArg
		}
	}
	return api.OK
}

// has reports whether a water has a bed.
func has(w api.BedsWater, bed int) bool { return within(bed, 0, len(w.Warm)-1) }

// falls is, for each bed, the first and the last day on which it can fall sick, as far as is known.
type falls [api.BedsMany]api.Span

// looked returns on which days beds can fall sick by what was seen alone, and gives up if looks contradict each other.
func looked(looks []api.BedsLook) falls {
	var f falls
	for bed := range f {
		f[bed] = api.Span{High: never}
	}
	for _, look := range looks {
		seen := api.Span{Low: look.Day + 1, High: never}
		if look.Sick {
			seen = api.Span{High: look.Day}
		}
		f[look.Bed] = narrow(f[look.Bed], seen)
	}
	return f
}

// cause returns the first day on which a bed can fall sick by itself or by another one, if no bed falls sick before its first day.
func (f falls) cause(w api.BedsWater, bed int) int {
	first := never
	if w.Warm[bed] >= 0 {
		first = w.Warm[bed]
	}
	for _, way := range w.Ways {
		if way.To == bed {
			first = min(first, f[way.From].Low+w.Wait)
		}
	}
	return first
}

// settle returns the first days that all have a cause, and gives up if there are none.
//
// All beds can fall sick on their first days at once, as no bed that falls sick sooner keeps another one from it.
func (f falls) settle(w api.BedsWater) falls {
	for settled := false; !settled; {
		settled = true
		for bed := range w.Warm {
			was := f[bed]
			f[bed] = narrow(was, api.Span{Low: f.cause(w, bed), High: never})
			settled = settled && f[bed] == was
		}
	}
	return f
}

// firsts returns on which days beds can fall sick, with some looks more, or false if that is not possible.
func firsts(w api.BedsWater, more ...api.BedsLook) (falls, bool) {
	var f falls
	possible := agrees(func() {
		looks := append([]api.BedsLook(nil), w.Looks...)
		f = looked(append(looks, more...)).settle(w)
	})
	return f, possible
}

// Falls reports whether a list of days is a truth.
func Falls(w api.BedsWater, days []int) (bool, api.Errno) {
	if Water(w) != api.OK || len(days) != len(w.Warm) {
		return false, api.ErrArg
	}
	var told falls
	for bed, day := range days {
		if !within(day, -1, api.BedsDays) {
			return false, api.ErrArg
		}
		if day < 0 {
			day = never
		}
		told[bed] = api.Span{Low: day, High: day}
	}
	return agrees(func() {
		seen := looked(w.Looks)
		for bed := range days {
			narrow(told[bed], seen[bed], api.Span{Low: told.cause(w, bed), High: never})
		}
	}), api.OK
}

// Reach returns the first day on which each bed can be sick.
func Reach(w api.BedsWater) ([]int, api.Errno) {
	if e := Water(w); e != api.OK {
		return nil, e
	}
	f, possible := firsts(w)
	if !possible {
		return nil, api.ErrRule
	}
	days := make([]int, len(w.Warm))
	for bed := range days {
		days[bed] = f[bed].Low
		if days[bed] == never {
			days[bed] = -1
		}
	}
	return days, api.OK
}

// asked returns the error of a water and a day, and on which days beds can fall sick.
func asked(w api.BedsWater, day int) (falls, api.Errno) {
	if Water(w) != api.OK || !within(day, 0, api.BedsDays) {
		return falls{}, api.ErrArg
	}
	f, possible := firsts(w)
	if !possible {
		return falls{}, api.ErrRule
	}
	return f, api.OK
}

// word returns what is known of a bed on a day.
func (f falls) word(w api.BedsWater, bed, day int) api.BedsWord {
	if f[bed].Low > day {
		return api.BedsNever
	}
	if _, possible := firsts(w, api.BedsLook{Bed: bed, Day: day}); possible {
		return api.BedsMay
	}
	return api.BedsSurely
}

// closed returns the beds that can be sick on a day.
func (f falls) closed(w api.BedsWater, day int) []int {
	var beds []int
	for bed := range w.Warm {
		if f[bed].Low <= day {
			beds = append(beds, bed)
		}
	}
	return beds
}

// Sick returns what is known of each bed on a day.
func Sick(w api.BedsWater, day int) ([]api.BedsWord, api.Errno) {
	f, e := asked(w, day)
	if e != api.OK {
		return nil, e
	}
	words := make([]api.BedsWord, len(w.Warm))
	for bed := range words {
		words[bed] = f.word(w, bed, day)
	}
	return words, api.OK
}

// Closed returns the beds that are closed on a day.
func Closed(w api.BedsWater, day int) ([]int, api.Errno) {
	f, e := asked(w, day)
	if e != api.OK {
		return nil, e
	}
	return f.closed(w, day), api.OK
}

// hope is a bed at which to look, and how many beds are closed if it is seen not to be sick.
type hope struct {
	bed    int
	closed int
}

// hopes yields the beds that can be sick on a day, and are not surely so, in order.
func (f falls) hopes(w api.BedsWater, day int) iter.Seq[hope] {
	return func(yield func(hope) bool) {
		for bed := range w.Warm {
			if f[bed].Low > day {
				continue
			}
			well, possible := firsts(w, api.BedsLook{Bed: bed, Day: day})
			if possible && !yield(hope{bed: bed, closed: len(well.closed(w, day))}) {
				return
			}
		}
	}
}

// Look returns at which bed to look on a day, and how many are closed then.
func Look(w api.BedsWater, day int) (int, int, api.Errno) {
	f, e := asked(w, day)
	if e == api.ErrArg || len(w.Looks) == api.BedsLooks {
		return 0, 0, api.ErrArg
	}
	if e != api.OK {
		return 0, 0, e
	}
	h, some := best(f.hopes(w, day), func(a, b hope) bool { return a.closed < b.closed })
	if !some {
		return 0, 0, api.ErrNone
	}
	return h.bed, h.closed, api.OK
}
