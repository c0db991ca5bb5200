package line

import (
	"maps"
	"slices"

	"bathyal/api"
)

// none stands for the signal of a word that is that of none.
const none = -1

// code is a code with its signals as words.
type code struct {
	kinds int
	words []word
}

// codeOf returns a code with its signals as words, or false if it is not as defined.
func codeOf(c api.LineCode) (code, bool) {
	if !within(c.Kinds, 0, allKinds) || !within(len(c.Signals), 2, api.LineSignals) {
		return code{}, false
	}
	k := code{kinds: c.Kinds}
	for _, groups := range c.Signals {
		w, ok := wordOf(groups, api.LineGroups, api.LinePulls)
		if !ok || w == "" || k.signal(w) != none {
			return code{}, false
		}
		k.words = append(k.words, w)
	}
	return k, true
}

// signal returns the signal of a word, or none.
func (k code) signal(w word) int {
	signal := slices.Index(k.words, w)
	if signal < 0 {
		return none
	}
	return signal
}

// notices reports whether no signal is heard as another one.
func (k code) notices(faults int) bool {
	for signal, w := range k.words {
		_, mistaken := first(w.readings(k.kinds, faults), func(r reading) bool {
			as := k.signal(r.as)
			return as != none && as != signal
		})
		if mistaken {
			return false
		}
	}
	return true
}

// rights reports whether no word is heard of two signals.
func (k code) rights(faults int) bool {
	_, some := k.clash(faults)
	return !some
}

// clash is two signals, and a word that is heard of both.
type clash struct {
	first  int
	second int
	heard  word
}

// clash returns the first clash, or false if there is none.
func (k code) clash(faults int) (clash, bool) {
	var near []map[word]int
	for _, w := range k.words {
		near = append(near, w.near(k.kinds, faults))
	}
	var found clash
	some := false
search:
	for a := range near {
		for b := a + 1; b < len(near); b++ {
			if heard, both := shared(near[a], near[b]); both {
				found, some = clash{first: a, second: b, heard: heard}, true
				break search
			}
		}
	}
	return found, some
}

// shared returns the first word in lexicographic order that is near two signals, or false if there is none.
func shared(a, b map[word]int) (word, bool) {
	words := slices.Sorted(maps.Keys(a))
	return first(slices.Values(words), func(w word) bool {
		_, both := b[w]
		return both
	})
}
