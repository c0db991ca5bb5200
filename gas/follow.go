package gas

import (
	"iter"
	"slices"

	"bathyal/api"
)

// end is an end of what is held.
type end int

// The ends.
const (
	low end = iota
	high
	ends
)

// body is a compartment with one of the rates that it can have.
type body struct {
	part int
	rate int
}

// followed is a dive with a table and a man, followed up to the moment after its last stage: between which bounds lies what each body holds then, and whether the dive was surely within the limits at all moments before.
//
// A rate is followed by itself, as it stays the same for the whole dive: a greater one holds more under pressure, and less after it.
type followed struct {
	api.GasTable
	api.GasMan
	held map[body]api.Span
	kept bool
}

// rates yields the rates that a compartment can have.
func (f followed) rates(part int) iter.Seq[int] {
	return func(yield func(int) bool) {
		for rate := f.Rates[part].Low; rate <= f.Rates[part].High; rate++ {
			if !yield(rate) {
				return
			}
		}
	}
}

// each returns what bodies hold when each has changed.
func (f followed) each(change func(b body) api.Span) map[body]api.Span {
	held := map[body]api.Span{}
	for part := range f.Parts {
		for rate := range f.rates(part) {
			b := body{part: part, rate: rate}
			held[b] = change(b)
		}
	}
	return held
}

// begin returns a dive without stages.
func begin(t api.GasTable, m api.GasMan) followed {
	f := followed{GasTable: t, GasMan: m, kept: true}
	f.held = f.each(func(body) api.Span { return just(api.GasAir) })
	return f
}

// least returns the least that a compartment can hold.
func (f followed) least(part int) int {
	least := f.held[body{part: part, rate: f.Rates[part].Low}].Low
	for rate := range f.rates(part) {
		least = min(least, f.held[body{part: part, rate: rate}].Low)
	}
	return least
}

// greatest returns the most that a compartment can hold.
func (f followed) greatest(part int) int {
	greatest := f.held[body{part: part, rate: f.Rates[part].Low}].High
	for rate := range f.rates(part) {
		greatest = max(greatest, f.held[body{part: part, rate: rate}].High)
	}
	return greatest
}

// known returns between which bounds lies what each compartment holds.
func (f followed) known() []api.Span {
	both := [ends]func(int) int{low: f.least, high: f.greatest}
	spans := make([]api.Span, len(f.Parts))
	for part := range spans {
		spans[part] = api.Span{Low: both[low](part), High: both[high](part)}
	}
	return spans
}

// exceeds reports whether a compartment can hold more than is allowed at a depth.
func (f followed) exceeds(part, depth int) bool {
	p := f.Parts[part]
	return f.greatest(part) > p.Limit+p.Slope*depth
}

// enter returns the dive when it is known whether it is surely within the limits at a depth.
func (f followed) enter(depth int) followed {
	for part := range f.Parts {
		f.kept = f.kept && !f.exceeds(part, depth)
	}
	return f
}

// pass returns the dive when the time of a stage has passed.
func (f followed) pass(s api.GasStage) followed {
	f.held = f.each(func(b body) api.Span { return after(f.held[b], b.rate, s) })
	return f
}

// after returns between which bounds lies what a body holds after a stage. Who held more, or was deeper, holds no less afterwards, so that the ends are reached at the ends of the depths.
func after(held api.Span, rate int, s api.GasStage) api.Span {
	now := api.Span{
		Low:  load(held.Low, rate, s.Depth.Low, s.Minutes.Low),
		High: load(held.High, rate, s.Depth.High, s.Minutes.Low),
	}
	all := now
	for range s.Minutes.High - s.Minutes.Low {
		now = api.Span{Low: minute(now.Low, rate, s.Depth.Low), High: minute(now.High, rate, s.Depth.High)}
		all = api.Span{Low: min(all.Low, now.Low), High: max(all.High, now.High)}
	}
	return all
}

// stay returns the dive with one stage more. The limits are least where the stage is least deep, and how deep it is has no part in what is held when it begins.
func (f followed) stay(s api.GasStage) followed { return f.enter(s.Depth.Low).pass(s) }

// follow returns the dive with some stages more.
func (f followed) follow(stages []api.GasStage) followed {
	for _, s := range stages {
		f = f.stay(s)
	}
	return f
}

// safe reports whether the dive surely keeps the limits if it comes to the surface now.
func (f followed) safe() bool { return f.enter(0).kept }

// surfaced returns a dive with one stage more, of no minutes at the surface, so that each moment is the beginning of a stage.
func surfaced(dive []api.GasStage) []api.GasStage {
	return slices.Concat(dive, []api.GasStage{{}})
}
