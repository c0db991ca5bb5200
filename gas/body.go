package gas

import (
	"slices"

	"bathyal/api"
)

// whole is the whole of which a rate is some parts.
const whole = 1000

// pressure returns the pressure at a depth.
func pressure(depth int) int { return api.GasAir + api.GasFathom*depth }

// minute returns what a compartment holds a minute later.
func minute(held, rate, depth int) int {
	parts := (pressure(depth) - held) * rate
	change := parts / whole
	if parts%whole < 0 { // Go rounds towards 0, and the table rounds down
		change--
	}
	return held + change
}

// load returns what a compartment holds after some minutes.
func load(held, rate, depth, minutes int) int {
	for range minutes {
		held = minute(held, rate, depth)
	}
	return held
}

// Load returns what a compartment holds after some minutes at a depth.
func Load(held, rate, depth, minutes int) (int, api.Errno) {
	if !within(held, 0, api.GasLimit) || !within(rate, 1, api.GasRate) || !within(depth, 0, api.GasDepth) || !within(minutes, 0, api.GasRest) {
		return 0, api.ErrArg
	}
	return load(held, rate, depth, minutes), api.OK
}

// shaped reports whether there is a number for each compartment, and two for each stage.
func shaped(t api.GasTable, dive []api.GasStage, x api.GasTruth) bool {
	return len(x.Rates) == len(t.Parts) && len(x.Depths) == len(dive) && len(x.Minutes) == len(dive)
}

// fits reports whether all numbers of a truth lie in their spans.
func fits(m api.GasMan, dive []api.GasStage, x api.GasTruth) bool {
	for part, s := range m.Rates {
		if !within(x.Rates[part], s.Low, s.High) {
			return false
		}
	}
	for i, s := range dive {
		if !within(x.Depths[i], s.Depth.Low, s.Depth.High) || !within(x.Minutes[i], s.Minutes.Low, s.Minutes.High) {
			return false
		}
	}
	return true
}

// Fits reports whether something is a truth of a man and a dive.
func Fits(t api.GasTable, m api.GasMan, dive []api.GasStage, x api.GasTruth) (bool, api.Errno) {
	if !defined(t, m, dive, 0) || !shaped(t, dive, x) {
		return false, api.ErrArg
	}
	return fits(m, dive, x), api.OK
}

// Run returns what all compartments hold at each moment, in truth.
func Run(t api.GasTable, m api.GasMan, dive []api.GasStage, x api.GasTruth) ([][]int, api.Errno) {
	if !defined(t, m, dive, 0) || !shaped(t, dive, x) || !fits(m, dive, x) {
		return nil, api.ErrArg
	}
	held := slices.Repeat([]int{api.GasAir}, len(t.Parts))
	run := [][]int{slices.Clone(held)}
	for i := range dive {
		for part, rate := range x.Rates {
			held[part] = load(held[part], rate, x.Depths[i], x.Minutes[i])
		}
		run = append(run, slices.Clone(held))
	}
	return run, api.OK
}
