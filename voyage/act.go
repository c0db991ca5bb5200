package voyage

import (
	"iter"

	"bathyal/api"
)

// deed is what an act does: it takes so many days with a wind, or 0 if that wind does not let it.
type deed interface {
	days(wind int) int
}

// The deeds.
type (
	staying struct{}
	sailing struct{ api.VoyagePassage }
)

func (staying) days(int) int { return 1 }

func (p sailing) days(wind int) int { return p.Days[wind] }

// deed returns what an act does.
func (c chart) deed(act int) deed {
	if act == api.VoyageStay {
		return staying{}
	}
	return sailing{c.Passages[act]}
}

// step is what an act leads to: a state, but for its wind, which is one of a set; and what is caught.
type step struct {
	state  api.VoyageState
	winds  int
	caught int
}

// step returns what an act leads to in a state other than at home, the water of which is what is meant by it, or false if it cannot be done.
func (c chart) step(s api.VoyageState, act int) (step, bool) {
	if !c.allows(s) {
		return step{}, false
	}
	d := c.deed(act)
	days, after, caught := d.days(s.Wind), s, 0
	after.Day += days
	after.Water -= days
	switch d := d.(type) {
	case staying:
		caught = c.Ports[s.Port].Catch
	case sailing:
		if d.From != s.Port {
			return step{}, false
		}
		after.Port = d.To
	}
	if days == 0 || after.Water < 0 || after.Day > c.End || !c.allows(after) {
		return step{}, false
	}
	return step{c.filled(after), c.windsAfter(s.Wind, days), caught}, true
}

// states yields the states that can come by a step.
func (c chart) states(t step) iter.Seq[api.VoyageState] {
	return func(yield func(api.VoyageState) bool) {
		for wind := range len(c.Next) {
			s := t.state
			s.Wind = wind
			if has(t.winds, wind) && !yield(s) {
				return
			}
		}
	}
}
