package air

import (
	"slices"

	"bathyal/api"
)

// letters is a string of a tangle, with a byte for each letter; the byte of the inverse letter is the negative one.
type letters string

// inverse returns the inverse string.
func (s letters) inverse() letters {
	inverse := []byte(s)
	slices.Reverse(inverse)
	for i := range inverse {
		inverse[i] = -inverse[i]
	}
	return letters(inverse)
}

// join returns some strings as one, in which no letter stands next to its inverse.
func join(strings ...letters) letters {
	var all []byte
	for _, s := range strings {
		for i := range len(s) {
			last := len(all) - 1
			if last >= 0 && all[last] == -s[i] {
				all = all[:last]
			} else {
				all = append(all, s[i])
			}
		}
	}
	return letters(all)
}

// tangled is the string of each place. Places without a hose keep theirs.
type tangled [api.AirTangled]letters

// untangled returns the strings of a tangle without crossings.
func untangled() tangled {
	var t tangled
	for i := range t {
		t[i] = letters([]byte{byte(i + 1)})
	}
	return t
}

// place returns the first one of the places of a crossing, from 0 on.
func place(crossing int) int { return max(crossing, -crossing) - 1 }

// cross returns the strings after one crossing more.
func (t tangled) cross(crossing int) tangled {
	n := place(crossing)
	first, second := t[n], t[n+1]
	if crossing > 0 {
		t[n], t[n+1] = join(first, second, first.inverse()), first
	} else {
		t[n], t[n+1] = second, join(second.inverse(), first, second)
	}
	return t
}

// stringsOf returns the strings of a tangle.
func stringsOf(tangle []int) tangled {
	t := untangled()
	for _, crossing := range tangle {
		t = t.cross(crossing)
	}
	return t
}

// isTangle reports whether a number of hoses and a tangle of them are as defined.
func isTangle(hoses int, tangle []int) bool {
	if !within(hoses, 2, api.AirTangled) || len(tangle) > api.AirCrossings {
		return false
	}
	isNone := func(crossing int) bool { return crossing == 0 || !within(crossing, 1-hoses, hoses-1) }
	return !slices.ContainsFunc(tangle, isNone)
}

// opposite returns the tangle that undoes a tangle.
func opposite(tangle []int) []int {
	var undone []int
	for _, crossing := range slices.Backward(tangle) {
		undone = append(undone, -crossing)
	}
	return undone
}

// shortest returns the first one of the shortest lists of crossings that have some strings; there must be such a list.
//
// Shorter lists are met first, and those of one length in lexicographic order.
func shortest(hoses int, wanted tangled) []int {
	met := map[tangled][]int{untangled(): nil}
	queue := []tangled{untangled()}
search:
	for len(queue) > 0 {
		t := queue[0]
		queue = queue[1:]
		for crossing := 1 - hoses; crossing < hoses; crossing++ {
			if crossing == 0 {
				continue
			}
			more := t.cross(crossing)
			if _, known := met[more]; !known {
				met[more] = with(met[t], crossing)
				queue = append(queue, more)
			}
			if more == wanted {
				break search
			}
		}
	}
	return met[wanted]
}

// Ends returns the hose at each place in the end.
func Ends(hoses int, tangle []int) ([]int, api.Errno) {
	if !isTangle(hoses, tangle) {
		return nil, api.ErrArg
	}
	ends := make([]int, hoses)
	for i := range ends {
		ends[i] = i + 1
	}
	for _, crossing := range tangle {
		n := place(crossing)
		ends[n], ends[n+1] = ends[n+1], ends[n]
	}
	return ends, api.OK
}

// Alike reports whether two tangles are alike.
func Alike(hoses int, a, b []int) (bool, api.Errno) {
	if !isTangle(hoses, a) || !isTangle(hoses, b) {
		return false, api.ErrArg
	}
	return stringsOf(a) == stringsOf(b), api.OK
}

// Clearing returns the clearing of a tangle. Just those lists clear it that are alike to the tangle that undoes it.
func Clearing(hoses int, tangle []int) ([]int, api.Errno) {
	if !isTangle(hoses, tangle) {
		return nil, api.ErrArg
	}
	return shortest(hoses, stringsOf(opposite(tangle))), api.OK
}
