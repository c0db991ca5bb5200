package voyage

import (
	"iter"
	"math"
	"slices"

	"bathyal/api"
)

// choice is a safe act, what is surely caught with it and from then on, and the day on which home is reached at the latest if it is reached as soon as can be from then on.
type choice struct {
	act    int
	caught int
	day    int
}

// catchesMore reports whether more is surely caught with a choice than with another one.
func (a choice) catchesMore(b choice) bool { return a.caught > b.caught }

// isSooner reports whether home is reached sooner with a choice than with another one.
func (a choice) isSooner(b choice) bool { return a.day < b.day }

// outlook is what was found of a state: whether it is safe, all safe acts, and the first of those that catch the most, and that bring the boat home the soonest.
type outlook struct {
	safe    bool
	choices []choice
	best    choice
	soonest choice
}

// outlook returns what is found of a state.
func (c chart) outlook(s api.VoyageState) outlook {
	var look func(s api.VoyageState) outlook
	look = func(s api.VoyageState) outlook {
		if s.Port == home {
			return outlook{safe: true, soonest: choice{day: s.Day}}
		}
		o, is := c.found[s]
		if !is {
			o.choices = slices.Collect(c.choices(s, look))
			o.best, o.safe = best(o.choices, choice.catchesMore)
			o.soonest, _ = best(o.choices, choice.isSooner)
			c.found[s] = o
		}
		return o
	}
	return look(c.filled(s))
}

// choices yields the safe acts of a state, by what a look tells of the states that can come.
func (c chart) choices(s api.VoyageState, look func(api.VoyageState) outlook) iter.Seq[choice] {
	return func(yield func(choice) bool) {
	search:
		for act := api.VoyageStay; act < len(c.Passages); act++ {
			t, can := c.step(s, act)
			if !can {
				continue
			}
			least, latest := math.MaxInt, 0
			for next := range c.states(t) {
				o := look(next)
				if !o.safe {
					continue search
				}
				least, latest = min(least, o.best.caught), max(latest, o.soonest.day)
			}
			if !yield(choice{act, t.caught + least, latest}) {
				break search
			}
		}
	}
}

// Home reports whether a state is safe.
func Home(c api.VoyageChart, s api.VoyageState) (bool, api.Errno) {
	known, e := begunAt(c, s)
	if e != api.OK {
		return false, e
	}
	return known.outlook(s).safe, api.OK
}

// Acts returns the safe acts of a state.
func Acts(c api.VoyageChart, s api.VoyageState) ([]int, api.Errno) {
	known, e := begunAt(c, s)
	if e != api.OK {
		return nil, e
	}
	var acts []int
	for _, x := range known.outlook(s).choices {
		acts = append(acts, x.act)
	}
	return acts, api.OK
}

// Leave returns the last day on which a state is safe.
func Leave(c api.VoyageChart, port, wind, water int) (int, api.Errno) {
	s := api.VoyageState{Port: port, Wind: wind, Water: water}
	known, e := begunAt(c, s)
	if e != api.OK || port == home {
		return 0, api.ErrArg
	}
	for s.Day = c.End; s.Day >= 0; s.Day-- {
		if known.outlook(s).safe {
			return s.Day, api.OK
		}
	}
	return 0, api.ErrNone
}

// Know returns the winds with which a passage is safe.
func Know(c api.VoyageChart, s api.VoyageState, passage int) ([]int, api.Errno) {
	known, e := begunAt(c, s)
	if e != api.OK || !within(passage, 0, len(c.Passages)-1) {
		return nil, api.ErrArg
	}
	isPassage := func(x choice) bool { return x.act == passage }
	return known.windsThat(func(wind int) bool {
		s.Wind = wind
		return slices.ContainsFunc(known.outlook(s).choices, isPassage)
	}), api.OK
}

// safe returns what is found of a safe state, or its error.
func safe(c api.VoyageChart, s api.VoyageState) (outlook, api.Errno) {
	known, e := begunAt(c, s)
	if e != api.OK {
		return outlook{}, e
	}
	o := known.outlook(s)
	if !o.safe {
		return outlook{}, api.ErrRule
	}
	return o, api.OK
}

// Sure returns what is surely caught from a state.
func Sure(c api.VoyageChart, s api.VoyageState) (int, api.Errno) {
	o, e := safe(c, s)
	return o.best.caught, e
}

// Order returns the best act of a state.
func Order(c api.VoyageChart, s api.VoyageState) (int, api.Errno) {
	o, e := safe(c, s)
	if e == api.OK && s.Port == home {
		e = api.ErrNone
	}
	return o.best.act, e
}

// Soonest returns the soonest day of a state.
func Soonest(c api.VoyageChart, s api.VoyageState) (int, api.Errno) {
	o, e := safe(c, s)
	return o.soonest.day, e
}
