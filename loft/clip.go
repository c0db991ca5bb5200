package loft

import (
	"iter"

	"bathyal/api"
)

// clipping is a list of pieces, and what they are worth.
type clipping struct {
	pieces []int
	worth  int
}

// betters reports whether a clipping is worth more than another one, or as much with fewer pieces.
func (c clipping) betters(other clipping) bool {
	if c.worth != other.worth {
		return c.worth > other.worth
	}
	return len(c.pieces) < len(other.pieces)
}

// price returns what a piece is worth.
func price(r api.LoftRule, piece api.LoftSponge) int {
	grade := gradeOf(r, piece)
	if grade == refuse {
		return 0
	}
	return r.Grades[grade].Price
}

// worth returns what pieces of a sponge are worth.
func worth(r api.LoftRule, s api.LoftSponge, pieces []int) int {
	all := 0
	for _, size := range pieces {
		s.Size = size
		all += price(r, s)
	}
	return all
}

// isClipping reports whether a sponge can be clipped into pieces.
func isClipping(r api.LoftRule, s api.LoftSponge, pieces []int) bool {
	if !within(len(pieces), 1, api.LoftPieces) {
		return false
	}
	most, left := s.Size, s.Size+r.Kerf // no cut comes before the first piece
	for _, size := range pieces {
		if !within(size, 1, most) {
			return false
		}
		most, left = size, left-r.Kerf-size
	}
	return left >= 0
}

// clippings yields all clippings of a sponge, in lexicographic order of their pieces.
func clippings(r api.LoftRule, s api.LoftSponge) iter.Seq[clipping] {
	return func(yield func(clipping) bool) {
		var cut func(pieces []int, most, left int) bool
		cut = func(pieces []int, most, left int) bool {
			if len(pieces) == api.LoftPieces {
				return true
			}
			for size := range numbers(api.Span{Low: 1, High: min(most, left)}) {
				more := with(pieces, size)
				if !yield(clipping{more, worth(r, s, more)}) || !cut(more, size, left-size-r.Kerf) {
					return false
				}
			}
			return true
		}
		cut(nil, s.Size, s.Size)
	}
}

// Worth returns what pieces of a sponge are worth.
func Worth(r api.LoftRule, s api.LoftSponge, pieces []int) (int, api.Errno) {
	if Check(r) != api.OK || !isSponge(s) || !isClipping(r, s, pieces) {
		return 0, api.ErrArg
	}
	return worth(r, s, pieces), api.OK
}

// Clip returns the best clipping of a sponge, and what it is worth.
func Clip(r api.LoftRule, s api.LoftSponge) ([]int, int, api.Errno) {
	if Check(r) != api.OK || !isSponge(s) {
		return nil, 0, api.ErrArg
	}
	found, some := best(clippings(r, s), clipping.betters)
	if !some {
		return nil, 0, api.ErrNone
	}
	return found.pieces, found.worth, api.OK
}
