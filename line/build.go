package line

import "slices"

// The most groups of a signal of a code that is built, and the most pulls of a group.
const (
	builtGroups = 2
	builtPulls  = 4
)

// pulls returns the pulls of all groups of a word.
func (w word) pulls() int {
	pulls := 0
	for i := range len(w) {
		pulls += int(w[i])
	}
	return pulls
}

// buildable returns all words that a code that is built can have, in lexicographic order.
func buildable() []word {
	var words []word
	var extend func(w word)
	extend = func(w word) {
		if len(w) > 0 {
			words = append(words, w)
		}
		if len(w) == builtGroups {
			return
		}
		for pulls := range byte(builtPulls) {
			extend(join(w, group(pulls+1)))
		}
	}
	extend("")
	return words
}

// pairs returns which pairs of words agree.
func pairs(words []word, agree func(a, b word) bool) [][]bool {
	table := make([][]bool, len(words))
	for b := range words {
		table[b] = make([]bool, b)
		for a := range b {
			table[b][a] = agree(words[a], words[b])
		}
	}
	return table
}

// built returns so many words, in lexicographic order, each two of which agree, with the fewest pulls; of several, the first ones; or none.
//
// Codes are met in lexicographic order, so that a later one has to have fewer pulls.
func built(signals int, agree func(a, b word) bool) []word {
	words := buildable()
	agrees := pairs(words, agree)
	var best []word
	least := 0
	var extend func(chosen []int, pulls int)
	extend = func(chosen []int, pulls int) {
		if best != nil && pulls >= least {
			return
		}
		if len(chosen) == signals {
			best, least = picked(words, chosen), pulls
			return
		}
		from := 0
		if len(chosen) > 0 {
			from = chosen[len(chosen)-1] + 1
		}
		for next := from; next < len(words); next++ {
			clashes := slices.ContainsFunc(chosen, func(before int) bool { return !agrees[next][before] })
			if !clashes {
				extend(append(chosen, next), pulls+words[next].pulls())
			}
		}
	}
	extend(nil, 0)
	return best
}

// picked returns the words with some numbers.
func picked(words []word, numbers []int) []word {
	var some []word
	for _, n := range numbers {
		some = append(some, words[n])
	}
	return some
}
