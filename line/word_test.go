package line_test

import (
	"math"
	"testing"

	"bathyal/api"
	"bathyal/line"
)

// P3.1
func TestHear(t *testing.T) {
	for i, x := range []struct {
		word          []int
		kinds, faults int
		want          [][]int
		e             api.Errno
	}{
		{l(1, 1), api.LineLost + api.LineJoined, 1, words(l(1), l(1, 1), l(2)), api.OK},
		// a group that had one pull is gone, and another one has one pull less
		{l(1), api.LineLost, 1, words(nil, l(1)), api.OK}, {l(2), api.LineLost, 1, words(l(1), l(2)), api.OK}, {l(2), api.LineLost, 2, words(nil, l(1), l(2)), api.OK},
		{l(1, 2, 1), api.LineLost, 1, words(l(1, 1, 1), l(1, 2), l(1, 2, 1), l(2, 1)), api.OK},
		// there is a pull more in a group, or a group more before, between or after the others
		{nil, api.LineAdded, 1, words(nil, l(1)), api.OK}, {nil, api.LineAdded, 2, words(nil, l(1), l(1, 1), l(2)), api.OK},
		{l(2, 3), api.LineAdded, 1, words(l(1, 2, 3), l(2, 1, 3), l(2, 3), l(2, 3, 1), l(2, 4), l(3, 3)), api.OK},
		{l(5), api.LineAdded, 1, words(l(1, 5), l(5), l(5, 1), l(6)), api.OK},
		// groups that follow one another are one
		{l(1, 2, 3), api.LineJoined, 1, words(l(1, 2, 3), l(1, 5), l(3, 3)), api.OK}, {l(1, 2, 3), api.LineJoined, 2, words(l(1, 2, 3), l(1, 5), l(3, 3), l(6)), api.OK}, {l(1), api.LineJoined, 1, words(l(1)), api.OK}, {nil, api.LineJoined, 2, words(nil), api.OK},
		// a group is two
		{l(4), api.LineParted, 1, words(l(1, 3), l(2, 2), l(3, 1), l(4)), api.OK}, {l(1, 1), api.LineParted, 1, words(l(1, 1)), api.OK}, {l(3), api.LineParted, 2, words(l(1, 1, 1), l(1, 2), l(2, 1), l(3)), api.OK},
		// a word between two misreadings can be empty
		{l(1), api.LineLost + api.LineAdded, 2, words(nil, l(1), l(1, 1), l(1, 1, 1), l(1, 2), l(2), l(2, 1), l(3)), api.OK},
		{l(5, 5, 5), 0, 2, words(l(5, 5, 5)), api.OK}, {l(5, 5, 5), allKinds, 0, words(l(5, 5, 5)), api.OK}, {nil, allKinds, 0, words(nil), api.OK},
		{l(0), 3, 1, nil, api.ErrArg}, {l(-1), 3, 1, nil, api.ErrArg}, {l(1, 0), 3, 1, nil, api.ErrArg}, {l(api.LinePulls + 1), 3, 1, nil, api.ErrArg}, {l(1, 1, 1, 1), 3, 1, nil, api.ErrArg}, {l(math.MaxInt), 3, 1, nil, api.ErrArg}, {l(math.MinInt), 3, 1, nil, api.ErrArg}, {l(257), 3, 1, nil, api.ErrArg},
		{l(1), -1, 1, nil, api.ErrArg}, {l(1), allKinds + 1, 1, nil, api.ErrArg}, {l(1), 3, -1, nil, api.ErrArg}, {l(1), 3, api.LineFew + 1, nil, api.ErrArg},
	} {
		if got, e := line.Hear(x.word, x.kinds, x.faults); e != x.e || !equal(got, x.want) {
			t.Error(i, got, e)
		}
	}
}

// everyWord returns all words of at most so many groups, each of at most so many pulls.
func everyWord(groups, pulls int) [][]int {
	all := words(nil)
	if groups == 0 {
		return all
	}
	for n := range pulls {
		for _, rest := range everyWord(groups-1, pulls) {
			all = append(all, append(l(n+1), rest...))
		}
	}
	return all
}

// P3.1: what is heard is what the definition makes of a word, and is as far as the misreadings that it takes
func TestHearAndFarOfAll(t *testing.T) {
	check := func(word []int, kinds int) {
		t.Helper()
		far := ball(unary(word), kinds, api.LineFew)
		for faults := range api.LineFew + 1 {
			if got, e := line.Hear(word, kinds, faults); e != api.OK || !equal(got, within(far, faults)) {
				t.Fatal(word, kinds, faults, got, e)
			}
		}
		for text, n := range far {
			if got, e := line.Far(word, groupsOf(text), kinds); e != api.OK || got != n {
				t.Fatal(word, kinds, text, got, e, n)
			}
		}
	}
	for kinds := range allKinds + 1 {
		for _, word := range everyWord(2, 3) {
			check(word, kinds)
		}
		check(l(5, 5, 5), kinds)
		check(l(5, 1, 4), kinds)
	}
}

// P3.1
func TestFar(t *testing.T) {
	for i, x := range []struct {
		word, heard []int
		kinds       int
		want        int
		e           api.Errno
	}{
		{l(1), l(2, 2), 3, 3, api.OK}, {l(3), l(2, 2), allKinds, 2, api.OK}, {l(3), l(1), api.LineAdded, 0, api.ErrNone},
		{nil, nil, 0, 0, api.OK}, {l(18, 18, 18, 18, 18, 18), l(18, 18, 18, 18, 18, 18), 0, 0, api.OK}, {l(1), nil, 0, 0, api.ErrNone}, {nil, l(1), 0, 0, api.ErrNone},
		{l(1), nil, api.LineLost, 1, api.OK}, {l(1), nil, allKinds - api.LineLost, 0, api.ErrNone}, {nil, l(1), api.LineAdded, 1, api.OK}, {nil, l(1), allKinds - api.LineAdded, 0, api.ErrNone},
		{l(3), nil, api.LineLost, 3, api.OK}, {l(4), nil, api.LineLost, 0, api.ErrNone}, {l(1, 1, 1, 1), nil, allKinds, 0, api.ErrNone}, {l(1, 1, 1), nil, api.LineLost, 3, api.OK},
		{l(1, 2, 3, 4), l(10), api.LineJoined, 3, api.OK}, {l(1, 2, 3, 4, 5), l(15), api.LineJoined, 0, api.ErrNone}, {l(10), l(1, 2, 3, 4), api.LineParted, 3, api.OK}, {l(15), l(1, 2, 3, 4, 5), api.LineParted, 0, api.ErrNone}, {l(10), l(1, 2, 3, 4), api.LineJoined, 0, api.ErrNone}, {l(1, 2, 3, 4), l(10), api.LineParted, 0, api.ErrNone},
		// a pull goes from a group to the next one: it is lost and added, or the groups are joined and parted
		{l(2, 1), l(1, 2), 3, 2, api.OK}, {l(2, 1), l(1, 2), api.LineJoined + api.LineParted, 2, api.OK}, {l(2, 1), l(1, 2), api.LineLost + api.LineJoined, 0, api.ErrNone},
		{l(4, 1), l(1, 4), 3, 2, api.OK}, {l(5, 2), l(2, 5), 3, 0, api.ErrNone}, {l(5, 2), l(2, 5), api.LineJoined + api.LineParted, 2, api.OK},
		{l(5), l(9), 3, 0, api.ErrNone}, {l(5), l(8), 3, 3, api.OK},
		// words between two misreadings are longer than words that are heard, or have more pulls
		{l(18, 10, 2, 2, 2, 2), l(15, 13, 2, 2, 2, 2), api.LineJoined + api.LineParted, 2, api.OK}, {l(2, 2, 3, 1, 2, 2), l(2, 2, 1, 3, 2, 2), api.LineJoined + api.LineParted, 2, api.OK},
		{l(18, 18, 18, 18, 18, 18), l(18, 18, 18, 18, 18, 15), allKinds, 3, api.OK}, {l(18, 18, 18, 18, 18, 18), l(18, 18, 18, 18, 18, 14), allKinds, 0, api.ErrNone}, {l(18, 18, 18, 18, 18, 15), l(18, 18, 18, 18, 18, 18), allKinds, 3, api.OK},
	} {
		if n, e := line.Far(x.word, x.heard, x.kinds); e != x.e || n != x.want {
			t.Error(i, n, e)
		}
	}
	for _, kinds := range l(-1, allKinds+1, math.MinInt, math.MaxInt) {
		if n, e := line.Far(l(1), l(1), kinds); e != api.ErrArg || n != 0 {
			t.Error(kinds, n, e)
		}
	}
	for _, w := range badWords() {
		if n, e := line.Far(w, l(1), 3); e != api.ErrArg || n != 0 {
			t.Error(w, n, e)
		}
		if n, e := line.Far(l(1), w, 3); e != api.ErrArg || n != 0 {
			t.Error(w, n, e)
		}
		if n, e := line.Far(w, w, 3); e != api.ErrArg || n != 0 {
			t.Error(w, n, e)
		}
	}
}

// undo returns the opposite kinds.
func undo(kinds int) int {
	all := 0
	for _, pair := range words(l(api.LineLost, api.LineAdded), l(api.LineAdded, api.LineLost), l(api.LineJoined, api.LineParted), l(api.LineParted, api.LineJoined)) {
		if kinds&pair[0] != 0 {
			all += pair[1]
		}
	}
	return all
}

// P3.1: a word is as far as the definition says, or farther than 3, and is as far by the opposite kinds from the other side
func TestFarOfAny(t *testing.T) {
	r := source(1)
	met := map[int]int{}
	for range 300 {
		kinds, word := r.Intn(allKinds+1), anyWord(r, 4, 4)
		far := ball(unary(word), kinds, api.LineFaults)
		for range 20 {
			heard := misread(r, word, kinds, r.Intn(6))
			if !isHeard(heard) {
				continue
			}
			want, some := far[unary(heard)]
			e := api.OK
			if !some {
				want, e = 0, api.ErrNone
			}
			met[want+10*int(e)]++
			if n, f := line.Far(word, heard, kinds); f != e || n != want {
				t.Fatal(word, heard, kinds, n, f, want, e)
			}
			if n, f := line.Far(heard, word, undo(kinds)); f != e || n != want {
				t.Fatal(heard, word, undo(kinds), n, f, want, e)
			}
		}
	}
	wantAll(t, met, 0, 1, 2, 3, 10*int(api.ErrNone))
}

// P3.1: long words
func TestFarOfLong(t *testing.T) {
	for _, kinds := range l(1, 2, 3, 4, 7, 8, 12) {
		word := l(18, 9, 18, 17, 18, 2)
		if kinds&api.LineAdded != 0 {
			word = l(16, 9, 17)
		}
		far := ball(unary(word), kinds, api.LineFaults)
		all := within(far, api.LineFaults)
		for i := 0; i < len(all); i += 1 + len(all)/100 {
			heard := all[i]
			if n, e := line.Far(word, heard, kinds); isHeard(heard) && (e != api.OK || n != far[unary(heard)]) {
				t.Fatal(word, heard, kinds, n, e)
			}
		}
	}
}
