package line

import (
	"slices"

	"bathyal/api"
)

// meaning is some signals, and how often they were misread, or tooFar if there are none.
type meaning struct {
	misread int
	signals []int
}

// betters reports whether a meaning is better than another one.
func (m meaning) betters(other meaning) bool {
	if m.misread != other.misread {
		return m.misread < other.misread
	}
	return slices.Compare(m.signals, other.signals) < 0
}

// and returns a meaning with one signal more.
func (m meaning) and(signal, misread int) meaning {
	return meaning{misread: m.misread + misread, signals: append(slices.Clone(m.signals), signal)}
}

// meanings is the best meaning that leads to each state.
type meanings [api.LineStates]meaning

// nowhere returns the meanings if no state can be reached.
func nowhere() meanings {
	var m meanings
	for state := range m {
		m[state].misread = tooFar
	}
	return m
}

// followed is a duty of a code, followed up to the last word that was heard.
type followed struct {
	api.LineDuty
	code
	best meanings
}

// dutyOf returns a duty that is not followed yet, or false if it is not as defined.
func dutyOf(c api.LineCode, d api.LineDuty) (followed, bool) {
	k, ok := codeOf(c)
	states := len(d.Next)
	if !ok || !within(states, 1, api.LineStates) || !within(d.First, 0, states-1) || len(d.Acts) > api.LineActs {
		return followed{}, false
	}
	for _, next := range d.Next {
		outside := func(state int) bool { return !within(state, -1, states-1) }
		if len(next) != len(k.words) || slices.ContainsFunc(next, outside) {
			return followed{}, false
		}
	}
	for _, allowed := range d.Acts {
		if !within(allowed, 0, 1<<states-1) {
			return followed{}, false
		}
	}
	f := followed{LineDuty: d, code: k, best: nowhere()}
	f.best[d.First] = meaning{}
	return f, true
}

// hear returns the duty when one word more was heard. Of the meanings that lead to a state, only the best one can begin a best one.
func (f followed) hear(w word) followed {
	best := nowhere()
	for signal, pulled := range f.words {
		far := pulled.far(w, f.kinds)
		for state, next := range f.Next {
			to := next[signal]
			if to < 0 {
				continue
			}
			if m := f.best[state].and(signal, far); m.misread < tooFar && m.betters(best[to]) {
				best[to] = m
			}
		}
	}
	f.best = best
	return f
}

// follow returns the duty after a log, or false if the duty or the log is not as defined.
func follow(c api.LineCode, d api.LineDuty, log [][]int) (followed, bool) {
	f, ok := dutyOf(c, d)
	words, also := logOf(log)
	if !ok || !also {
		return followed{}, false
	}
	for _, w := range words {
		f = f.hear(w)
	}
	return f, true
}

// logOf returns the words of a log, or false if it is not as defined.
func logOf(log [][]int) ([]word, bool) {
	if len(log) > api.LineLog {
		return nil, false
	}
	return heardWords(log)
}

// states returns the states in which the diver can be.
func (f followed) states(faults int) []int {
	var states []int
	for state, m := range f.best {
		if m.misread <= faults {
			states = append(states, state)
		}
	}
	return states
}

// safe returns the acts that are allowed in some states.
func (f followed) safe(states []int) []int {
	var safe []int
	for act, allowed := range f.Acts {
		forbidden := func(state int) bool { return allowed>>state&1 == 0 }
		if !slices.ContainsFunc(states, forbidden) {
			safe = append(safe, act)
		}
	}
	return safe
}

// asked returns the duty after a log, and the states in which the diver can be.
func asked(c api.LineCode, d api.LineDuty, log [][]int, faults int) (followed, []int, api.Errno) {
	f, ok := follow(c, d, log)
	if !ok || !within(faults, 0, api.LineFaults) {
		return followed{}, nil, api.ErrArg
	}
	states := f.states(faults)
	if len(states) == 0 {
		return followed{}, nil, api.ErrRule
	}
	return f, states, api.OK
}

// Duty returns the error of a duty.
func Duty(c api.LineCode, d api.LineDuty) api.Errno {
	if _, ok := dutyOf(c, d); !ok {
		return api.ErrArg
	}
	return api.OK
}

// States returns the states in which a diver can be after a log.
func States(c api.LineCode, d api.LineDuty, log [][]int, faults int) ([]int, api.Errno) {
	_, states, e := asked(c, d, log, faults)
	return states, e
}

// Acts returns the acts that are safe after a log.
func Acts(c api.LineCode, d api.LineDuty, log [][]int, faults int) ([]int, api.Errno) {
	f, states, e := asked(c, d, log, faults)
	return f.safe(states), e
}

// Means returns the best meaning of a log, and its misreadings.
func Means(c api.LineCode, d api.LineDuty, log [][]int) ([]int, int, api.Errno) {
	f, ok := follow(c, d, log)
	if !ok {
		return nil, 0, api.ErrArg
	}
	best := f.best[0]
	for _, m := range f.best {
		if m.betters(best) {
			best = m
		}
	}
	if best.misread > api.LineFaults {
		return nil, 0, api.ErrNone
	}
	return best.signals, best.misread, api.OK
}
