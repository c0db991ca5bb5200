package line

import (
	"slices"

	"bathyal/api"
)

// deed is what was done in a round.
type deed int

// The deeds of a round.
const (
	again deed = iota // the tender did not hear the signal
	done              // the tender heard it
	deeds
)

// talk is a code with a signal to talk about.
type talk struct {
	code
	about int
}

// round is the fewest misreadings with which a round comes to each of its ends, or tooFar; the signal on which the diver acts is counted from none on.
type round [deeds][1 + api.LineSignals]int

// talkOf returns a talk, or false if it is not as defined.
func talkOf(c api.LineCode, signal, rounds int) (talk, bool) {
	k, ok := codeOf(c)
	if !ok || !within(signal, 1, len(k.words)-1) || !within(rounds, 1, api.LineRounds) {
		return talk{}, false
	}
	return talk{code: k, about: signal}, true
}

// reply returns what a diver pulls who acts on a signal, or on none.
func (t talk) reply(act int) word {
	if act == none {
		return t.words[0]
	}
	return t.words[act]
}

// other returns the fewest misreadings by which a word is heard as one that suits, or tooFar.
func (k code) other(w word, suits func(word) bool) int {
	r, some := first(w.readings(k.kinds, api.LineFaults), func(r reading) bool { return suits(r.as) })
	if !some {
		return tooFar
	}
	return r.far
}

// acted returns the fewest misreadings by which a word is heard as what the diver acts on.
func (k code) acted(w word, act int) int {
	if act == none {
		return k.other(w, func(as word) bool { return k.signal(as) == none })
	}
	return w.far(k.words[act], k.kinds)
}

// round returns what can come of one round.
func (t talk) round() round {
	var r round
	for i := range r[done] {
		r[again][i], r[done][i] = tooFar, tooFar
	}
	signal := t.words[t.about]
	for act := none; act < len(t.words); act++ {
		heard, reply := t.acted(signal, act), t.reply(act)
		r[again][act-none] = heard + t.other(reply, func(as word) bool { return as != signal })
		r[done][act-none] = heard + reply.far(signal, t.kinds)
	}
	return r
}

// fewest returns the fewest misreadings with which a talk comes to each of its ends. A talk that is done later has rounds before that take misreadings, too.
func (t talk) fewest(rounds int) round {
	r := t.round()
	more := slices.Min(r[again][:])
	for i := range r[again] {
		r[again][i] += (rounds - 1) * more
	}
	return r
}

// Ends returns all ways in which a talk can end.
func Ends(c api.LineCode, signal, rounds, faults int) ([]api.LineEnd, api.Errno) {
	t, ok := talkOf(c, signal, rounds)
	if !ok || !within(faults, 0, api.LineFaults) {
		return nil, api.ErrArg
	}
	fewest := t.fewest(rounds)
	var ends []api.LineEnd
	for act := none; act < len(t.words); act++ {
		for d := range deeds {
			if fewest[d][act-none] <= faults {
				ends = append(ends, api.LineEnd{Done: d == done, Act: act})
			}
		}
	}
	return ends, api.OK
}

// play returns the end of a talk in which some words were heard, and what was pulled for each of them, and gives up if there are not as many words as the talk has.
func (t talk) play(rounds int, heard []word) (api.LineEnd, []word) {
	var end api.LineEnd
	var pulled []word
	for len(pulled) < 2*rounds && !end.Done {
		if len(heard) < len(pulled)+2 {
			panic(wrongWords{})
		}
		diver, tender := heard[len(pulled)], heard[len(pulled)+1]
		end.Act = t.signal(diver)
		end.Done = tender == t.words[t.about]
		pulled = append(pulled, t.words[t.about], t.reply(end.Act))
	}
	if len(heard) > len(pulled) {
		panic(wrongWords{})
	}
	return end, pulled
}

// Play returns the end of a talk in which some words were heard, and its misreadings.
func Play(c api.LineCode, signal, rounds int, heard [][]int) (api.LineEnd, int, api.Errno) {
	t, ok := talkOf(c, signal, rounds)
	words, also := heardWords(heard)
	if !ok || !also {
		return api.LineEnd{}, 0, api.ErrArg
	}
	var end api.LineEnd
	var pulled []word
	if e := attempt(func() { end, pulled = t.play(rounds, words) }); e != api.OK {
		return api.LineEnd{}, 0, e
	}
	misread := 0
	for i, w := range pulled {
		far := w.far(words[i], t.kinds)
		if far == tooFar {
			return api.LineEnd{}, 0, api.ErrRule
		}
		misread += far
	}
	return end, misread, api.OK
}

// wrong returns the fewest misreadings with which a talk goes wrong, or more than anybody asks for.
func (t talk) wrong(rounds int) int {
	acts := t.fewest(rounds)[done]
	acts[t.about-none] = tooFar
	return slices.Min(acts[:])
}

// Weak returns the fewest misreadings with which a talk goes wrong, and its signal.
func Weak(c api.LineCode, rounds int) (int, int, api.Errno) {
	t, ok := talkOf(c, 1, rounds)
	if !ok {
		return 0, 0, api.ErrArg
	}
	fewest, weak := tooFar, 0
	for ; t.about < len(t.words); t.about++ {
		if n := t.wrong(rounds); n < fewest {
			fewest, weak = n, t.about
		}
	}
	if fewest == tooFar {
		return 0, 0, api.ErrNone
	}
	return fewest, weak, api.OK
}
