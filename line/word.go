package line

import (
	"iter"
	"slices"

	"bathyal/api"
)

// tooFar stands for all distances that are more than anybody asks for.
const tooFar = api.LineFaults + 1

// word is a word with a byte for each group, so that words can be keys of maps, and their order is the lexicographic one. No misreadings that are asked for bring a group to more pulls than a byte holds.
type word string

// wordOf returns the word of some groups, or false if it is longer than may be, or if a group has no pull, or more than may be.
func wordOf(groups []int, long, many int) (word, bool) {
	if len(groups) > long {
		return "", false
	}
	var bytes []byte
	for _, pulls := range groups {
		if !within(pulls, 1, many) {
			return "", false
		}
		bytes = append(bytes, byte(pulls))
	}
	return word(bytes), true
}

// heardWord returns the word of some groups, or false if it is not one that is heard.
func heardWord(groups []int) (word, bool) { return wordOf(groups, api.LineLong, api.LineMany) }

// heardWords returns the words of some lists, or false if one is not a word that is heard.
func heardWords(lists [][]int) ([]word, bool) {
	var words []word
	for _, groups := range lists {
		w, ok := heardWord(groups)
		if !ok {
			return nil, false
		}
		words = append(words, w)
	}
	return words, true
}

// groups returns the groups of a word.
func (w word) groups() []int {
	var groups []int
	for i := range len(w) {
		groups = append(groups, int(w[i]))
	}
	return groups
}

// lists returns the groups of some words.
func lists(words iter.Seq[word]) [][]int {
	var lists [][]int
	for w := range words {
		lists = append(lists, w.groups())
	}
	return lists
}

// group returns the word of one group, or the empty word if it has no pulls.
func group(pulls byte) word {
	if pulls == 0 {
		return ""
	}
	return word([]byte{pulls})
}

// join returns the word of all groups of some words.
func join(words ...word) word {
	var all word
	for _, w := range words {
		all += w
	}
	return all
}

// lost yields the words with one pull less.
func (w word) lost() iter.Seq[word] {
	return func(yield func(word) bool) {
		for i := range len(w) {
			if !yield(join(w[:i], group(w[i]-1), w[i+1:])) {
				return
			}
		}
	}
}

// added yields the words with one pull more, in a group or as one.
func (w word) added() iter.Seq[word] {
	return func(yield func(word) bool) {
		for i := range len(w) {
			if !yield(join(w[:i], group(w[i]+1), w[i+1:])) {
				return
			}
		}
		for i := range len(w) + 1 {
			if !yield(join(w[:i], group(1), w[i:])) {
				return
			}
		}
	}
}

// joined yields the words with two groups as one.
func (w word) joined() iter.Seq[word] {
	return func(yield func(word) bool) {
		for i := range len(w) - 1 {
			if !yield(join(w[:i], group(w[i]+w[i+1]), w[i+2:])) {
				return
			}
		}
	}
}

// parted yields the words with one group as two.
func (w word) parted() iter.Seq[word] {
	return func(yield func(word) bool) {
		for i := range len(w) {
			for pulls := byte(1); pulls < w[i]; pulls++ {
				if !yield(join(w[:i], group(pulls), group(w[i]-pulls), w[i+1:])) {
					return
				}
			}
		}
	}
}

// misreadings returns what each of some kinds makes of a word.
func misreadings(kinds int) []func(word) iter.Seq[word] {
	all := map[int]func(word) iter.Seq[word]{
		api.LineLost:   word.lost,
		api.LineAdded:  word.added,
		api.LineJoined: word.joined,
		api.LineParted: word.parted,
	}
	var some []func(word) iter.Seq[word]
	for kind := api.LineLost; kind <= api.LineParted; kind *= 2 {
		if kinds&kind != 0 {
			some = append(some, all[kind])
		}
	}
	return some
}

// opposite returns the kinds that undo some kinds.
func opposite(kinds int) int {
	const takes, gives = api.LineLost | api.LineJoined, api.LineAdded | api.LineParted
	return (kinds&takes)<<1 | (kinds&gives)>>1
}

// reading is a word as which another one is heard, and how far it is from that.
type reading struct {
	as  word
	far int
}

// readings yields what a word is heard as by at most so many misreadings, the nearest words first.
func (w word) readings(kinds, faults int) iter.Seq[reading] {
	return func(yield func(reading) bool) {
		some := misreadings(kinds)
		met := map[word]bool{w: true}
		queue := []reading{{as: w}}
		for len(queue) > 0 {
			r := queue[0]
			queue = queue[1:]
			if !yield(r) {
				return
			}
			if r.far == faults {
				continue
			}
			for _, misread := range some {
				for as := range misread(r.as) {
					if !met[as] {
						met[as] = true
						queue = append(queue, reading{as: as, far: r.far + 1})
					}
				}
			}
		}
	}
}

// near returns how far words are from a word, for all that are at most so far.
func (w word) near(kinds, faults int) map[word]int {
	near := map[word]int{}
	for r := range w.readings(kinds, faults) {
		near[r.as] = r.far
	}
	return near
}

// heard yields the words as which a word is heard, in order.
func (w word) heard(kinds, faults int) iter.Seq[word] {
	var words []word
	for r := range w.readings(kinds, faults) {
		words = append(words, r.as)
	}
	slices.Sort(words)
	return slices.Values(words)
}

// far returns how far a word that was heard is, or tooFar. The last misreading is undone at the word that was heard, since a long word is heard as very many others by all misreadings that are asked for.
func (w word) far(heard word, kinds int) int {
	near := w.near(kinds, api.LineFaults-1)
	r, met := first(heard.readings(opposite(kinds), 1), func(r reading) bool {
		_, met := near[r.as]
		return met
	})
	if !met {
		return tooFar
	}
	return near[r.as] + r.far
}
