package loft

import (
	"math/bits"

	"bathyal/api"
)

// isSearch reports whether a search is as defined.
func isSearch(s api.LoftSearch) bool {
	if !within(s.Strings, 1, api.LoftStrings) || !within(s.Most, 0, api.LoftSandy) || len(s.Samples) > api.LoftSamples {
		return false
	}
	for _, sample := range s.Samples {
		if !isSome(sample.Set, s.Strings) {
			return false
		}
	}
	return true
}

// shows reports whether a sample shows sand if a set of strings has some.
func shows(sample, sandy int) bool { return sample&sandy != 0 }

// isPossible reports whether a set of strings is possible.
func isPossible(s api.LoftSearch, set int) bool {
	if bits.OnesCount(uint(set)) > s.Most {
		return false
	}
	for _, sample := range s.Samples {
		if shows(sample.Set, set) != sample.Sand {
			return false
		}
	}
	return true
}

// open is what a search has left open: how many strings there are, and which sets of them are possible, with a bit for each set.
type open struct {
	strings int
	sets    uint32
}

// leftOpen returns what a search has left open.
func leftOpen(s api.LoftSearch) open {
	o := open{strings: s.Strings}
	for set := range 1 << s.Strings {
		if isPossible(s, set) {
			o.sets |= 1 << set
		}
	}
	return o
}

// split returns what a sample leaves open in which sand is found, and in which none is.
func (o open) split(sample int) (sand, none open) {
	sand, none = open{strings: o.strings}, open{strings: o.strings}
	for set := range 1 << o.strings {
		bit := o.sets & (1 << set)
		if shows(sample, set) {
			sand.sets |= bit
		} else {
			none.sets |= bit
		}
	}
	return sand, none
}

// isOver reports whether just one set is possible.
func (o open) isOver() bool { return bits.OnesCount32(o.sets) == 1 }

// word returns what is known of a string: it is as if it were sampled alone.
func (o open) word(number int) api.LoftWord {
	sand, none := o.split(1 << number)
	switch {
	case sand.sets == 0:
		return api.LoftNever
	case none.sets == 0:
		return api.LoftSurely
	}
	return api.LoftMay
}

// advice is the set of the best sample, and how many samples are needed.
type advice struct {
	sample int
	needed int
}

// advise returns the best sample, unless the search is over. What was found of searches that were met is kept.
func (o open) advise(met map[open]advice) advice {
	if o.isOver() {
		return advice{}
	}
	found, is := met[o]
	if !is {
		found = o.tryAll(met)
		met[o] = found
	}
	return found
}

// tryAll tries all samples but those that can show one thing alone, which are of no use. It need not go on after one with which no more are needed than to tell so many sets apart in any case.
func (o open) tryAll(met map[open]advice) advice {
	fewest := bits.Len(uint(bits.OnesCount32(o.sets) - 1))
	var found advice
search:
	for sample := 1; sample < 1<<o.strings; sample++ {
		sand, none := o.split(sample)
		if sand.sets == 0 || none.sets == 0 {
			continue
		}
		needed := 1 + max(sand.advise(met).needed, none.advise(met).needed)
		if found.needed == 0 || needed < found.needed {
			found = advice{sample, needed}
		}
		if needed == fewest {
			break search
		}
	}
	return found
}

// Fits reports whether a set of strings with sand is possible.
func Fits(s api.LoftSearch, set int) (bool, api.Errno) {
	if !isSearch(s) || !within(set, 0, 1<<s.Strings-1) {
		return false, api.ErrArg
	}
	return isPossible(s, set), api.OK
}

// begun returns what a search has left open, or its error.
func begun(s api.LoftSearch) (open, api.Errno) {
	if !isSearch(s) {
		return open{}, api.ErrArg
	}
	o := leftOpen(s)
	if o.sets == 0 {
		return open{}, api.ErrRule
	}
	return o, api.OK
}

// Sandy returns what is known of each string.
func Sandy(s api.LoftSearch) ([]api.LoftWord, api.Errno) {
	o, e := begun(s)
	if e != api.OK {
		return nil, e
	}
	words := make([]api.LoftWord, s.Strings)
	for number := range s.Strings {
		words[number] = o.word(number)
	}
	return words, api.OK
}

// Sample returns the set of the best sample, and how many samples are needed.
func Sample(s api.LoftSearch) (int, int, api.Errno) {
	o, e := begun(s)
	if e != api.OK {
		return 0, 0, e
	}
	if o.isOver() {
		return 0, 0, api.ErrNone
	}
	found := o.advise(map[open]advice{})
	return found.sample, found.needed, api.OK
}
