package line_test

import (
	"cmp"
	"math"
	"math/rand"
	"slices"
	"testing"

	"bathyal/api"
	"bathyal/line"
)

func end(done bool, act int) api.LineEnd { return api.LineEnd{Done: done, Act: act} }

func ends(e ...api.LineEnd) []api.LineEnd { return e }

// P3.5
func TestEnds(t *testing.T) {
	for i, x := range []struct {
		c                      api.LineCode
		signal, rounds, faults int
		want                   []api.LineEnd
		e                      api.Errno
	}{
		{codeC(), 1, 1, 0, ends(end(true, 1)), api.OK}, {codeC(), 1, 1, 1, ends(end(false, -1), end(false, 1), end(true, 1)), api.OK},
		{codeC(), 1, 1, 2, ends(end(false, -1), end(false, 0), end(false, 1), end(true, 1)), api.OK},
		{codeC(), 1, 1, 3, ends(end(false, -1), end(true, -1), end(false, 0), end(false, 1), end(true, 1), end(false, 2)), api.OK},
		// each round that is not the last one takes a misreading, too
		{codeC(), 1, 2, 1, ends(end(true, 1)), api.OK}, {codeC(), 1, 2, 2, ends(end(false, -1), end(false, 1), end(true, 1)), api.OK}, {codeC(), 1, 2, 3, ends(end(false, -1), end(true, -1), end(false, 0), end(false, 1), end(true, 1)), api.OK},
		{codeC(), 1, 4, 3, ends(end(true, -1), end(true, 1)), api.OK}, {codeC(), 1, 3, 3, ends(end(false, -1), end(true, -1), end(false, 1), end(true, 1)), api.OK},
		// who hears nothing at all does not act
		{code(api.LineLost, l(2), l(1)), 1, 1, 1, ends(end(false, -1), end(false, 1), end(true, 1)), api.OK},
		// no word but signals can be heard
		{code(api.LineJoined, l(3), l(1, 2)), 1, 1, 3, ends(end(false, 0), end(false, 1), end(true, 1)), api.OK},
		{code(0, l(1), l(3)), 1, 1, 3, ends(end(true, 1)), api.OK}, {code(0, l(1), l(3)), 1, 4, 3, ends(end(true, 1)), api.OK},
		{codeC(), 0, 1, 1, nil, api.ErrArg}, {codeC(), 3, 1, 1, nil, api.ErrArg}, {codeC(), -1, 1, 1, nil, api.ErrArg}, {codeC(), math.MaxInt, 1, 1, nil, api.ErrArg},
		{codeC(), 1, 0, 1, nil, api.ErrArg}, {codeC(), 1, -1, 1, nil, api.ErrArg}, {codeC(), 1, api.LineRounds + 1, 1, nil, api.ErrArg},
		{codeC(), 1, 1, -1, nil, api.ErrArg}, {codeC(), 1, 1, api.LineFaults + 1, nil, api.ErrArg},
	} {
		if got, e := line.Ends(x.c, x.signal, x.rounds, x.faults); e != x.e || !equal(got, x.want) {
			t.Error(i, got, e)
		}
	}
	for _, c := range badCodes() {
		if got, e := line.Ends(c, 1, 1, 1); e != api.ErrArg || len(got) != 0 {
			t.Error(c, got, e)
		}
	}
}

// P3.5
func TestPlay(t *testing.T) {
	for i, x := range []struct {
		rounds int
		heard  [][]int
		want   api.LineEnd
		faults int
		e      api.Errno
	}{
		{1, words(l(3), l(3)), end(true, 1), 0, api.OK}, {api.LineRounds, words(l(3), l(3)), end(true, 1), 0, api.OK},
		{1, words(l(2), l(3)), end(true, -1), 3, api.OK}, {1, words(l(2), l(1)), end(false, -1), 1, api.OK}, {1, words(l(2, 2), l(2, 2)), end(false, 2), 3, api.OK}, {1, words(l(2, 2), l(3)), end(true, 2), 6, api.OK},
		// the diver acts on the signal 0, too, and repeats it
		{1, words(l(1), l(3)), end(true, 0), 4, api.OK}, {1, words(l(1), l(1)), end(false, 0), 2, api.OK},
		{1, words(nil, l(1)), end(false, -1), 3, api.OK}, {1, words(nil, nil), end(false, -1), 4, api.OK},
		{2, words(l(2), l(1), l(3), l(3)), end(true, 1), 1, api.OK}, {2, words(l(3), l(2), l(2), l(1)), end(false, -1), 2, api.OK},
		{api.LineRounds, words(nil, nil, nil, nil, nil, nil, nil, nil), end(false, -1), 16, api.OK}, {api.LineRounds, words(nil, nil, nil, nil, nil, nil, l(3), l(3)), end(true, 1), 12, api.OK},
		// too far, for the diver or the tender
		{1, words(l(7), l(1)), api.LineEnd{}, 0, api.ErrRule}, {1, words(l(3), l(7)), api.LineEnd{}, 0, api.ErrRule}, {2, words(l(2), l(1), l(3), l(7)), api.LineEnd{}, 0, api.ErrRule}, {1, words(l(6), l(4)), end(false, -1), 6, api.OK},
		// not as many words as the talk has, be they too far or not
		{1, nil, api.LineEnd{}, 0, api.ErrArg}, {1, words(l(3)), api.LineEnd{}, 0, api.ErrArg}, {1, words(l(3), l(3), l(3)), api.LineEnd{}, 0, api.ErrArg}, {2, words(l(3), l(3), l(3), l(3)), api.LineEnd{}, 0, api.ErrArg}, {2, words(l(2), l(1)), api.LineEnd{}, 0, api.ErrArg}, {2, words(l(2), l(1), l(3)), api.LineEnd{}, 0, api.ErrArg}, {1, words(l(2), l(1), l(3), l(3)), api.LineEnd{}, 0, api.ErrArg},
		{2, words(l(9), l(1)), api.LineEnd{}, 0, api.ErrArg}, {2, words(l(9), l(1), l(1)), api.LineEnd{}, 0, api.ErrArg}, {1, words(l(9), l(1), l(1), l(1)), api.LineEnd{}, 0, api.ErrArg}, {1, words(l(9)), api.LineEnd{}, 0, api.ErrArg},
		{0, words(l(3), l(3)), api.LineEnd{}, 0, api.ErrArg}, {-1, words(l(3), l(3)), api.LineEnd{}, 0, api.ErrArg}, {api.LineRounds + 1, words(l(3), l(3)), api.LineEnd{}, 0, api.ErrArg}, {math.MaxInt, words(l(3), l(3)), api.LineEnd{}, 0, api.ErrArg},
	} {
		if got, n, e := line.Play(codeC(), 1, x.rounds, x.heard); e != x.e || got != x.want || n != x.faults {
			t.Error(i, got, n, e)
		}
	}
	wrong := func(c api.LineCode, signal int, heard [][]int) {
		t.Helper()
		if got, n, e := line.Play(c, signal, 1, heard); e != api.ErrArg || got != (api.LineEnd{}) || n != 0 {
			t.Error(c, signal, heard, got, n, e)
		}
	}
	for _, signal := range l(-1, 0, 3, math.MinInt, math.MaxInt) {
		wrong(codeC(), signal, words(l(3), l(3)))
	}
	for _, c := range badCodes() {
		wrong(c, 1, words(l(3), l(3)))
	}
	for _, w := range badWords() {
		wrong(codeC(), 1, words(w, l(3)))
		wrong(codeC(), 1, words(l(3), w))
	}
}

// acted returns the signal of a word, or -1.
func acted(c api.LineCode, heard []int) int {
	return slices.IndexFunc(c.Signals, func(w []int) bool { return slices.Equal(w, heard) })
}

// reply returns what a diver pulls who heard a word.
func reply(c api.LineCode, heard []int) []int { return c.Signals[max(0, acted(c, heard))] }

// talks returns, for each end of a talk with at most so many misreadings, the words of one that has it, by going through all words that can be heard.
//
// A word that is no signal has the same reply as any other one, so that it is enough to go on with the nearest one.
func talks(known balls, c api.LineCode, signal, rounds, faults int) map[api.LineEnd][][]int {
	found := map[api.LineEnd][][]int{}
	about := c.Signals[signal]
	for _, diver := range nearest(c, known.of(about, c.Kinds), faults) {
		for _, tender := range nearest(c, known.of(reply(c, diver.word), c.Kinds), faults-diver.far) {
			heard, pair := diver.word, words(diver.word, tender.word)
			if slices.Equal(pair[1], about) {
				found[end(true, acted(c, heard))] = pair
			} else if rounds == 1 {
				found[end(false, acted(c, heard))] = pair
			} else {
				for e, more := range talks(known, c, signal, rounds-1, faults-diver.far-tender.far) {
					found[e] = slices.Concat(pair, more)
				}
			}
		}
	}
	return found
}

// hearing is a word that is heard, and how far it is from that which was pulled.
type hearing struct {
	word []int
	far  int
}

// nearest returns the signals that are at most so far, and the nearest of all other words.
func nearest(c api.LineCode, far map[string]int, faults int) []hearing {
	var near []hearing
	other, least := "", faults+1
	for text, n := range far {
		if acted(c, groupsOf(text)) < 0 && (n < least || n == least && text < other) {
			other, least = text, n
		}
	}
	if least <= faults {
		near = append(near, hearing{groupsOf(other), least})
	}
	for _, w := range c.Signals {
		if n, met := far[unary(w)]; met && n <= faults {
			near = append(near, hearing{w, n})
		}
	}
	return near
}

// anyTalk returns a code, and a signal to talk about.
func anyTalk(r *rand.Rand) (api.LineCode, int) {
	c := anyCode(r, 4, 2, 3)
	return c, 1 + r.Intn(len(c.Signals)-1)
}

// P3.5: talks can end in those ways alone in which some talk does that is played, and these are in order
func TestEndsOfAny(t *testing.T) {
	r := source(6)
	met := map[api.LineEnd]int{}
	known := balls{}
	for range 250 {
		c, signal := anyTalk(r)
		rounds, faults := 1+r.Intn(api.LineRounds), r.Intn(api.LineFaults+1)
		found := talks(known, c, signal, rounds, faults)
		var want []api.LineEnd
		for e, heard := range found {
			want = append(want, e)
			if got, n, f := line.Play(c, signal, rounds, heard); f != api.OK || got != e || n > faults {
				t.Fatal(c, signal, rounds, heard, got, n, f, e)
			}
			met[e]++
		}
		slices.SortFunc(want, func(a, b api.LineEnd) int {
			if a.Act != b.Act {
				return cmp.Compare(a.Act, b.Act)
			}
			if a.Done {
				return 1
			}
			return -1
		})
		if got, e := line.Ends(c, signal, rounds, faults); e != api.OK || !equal(got, want) {
			t.Fatal(c, signal, rounds, faults, got, e, want)
		}
	}
	wantAll(t, met, end(false, -1), end(true, -1), end(false, 0), end(true, 0), end(false, 1), end(true, 1), end(false, 2), end(true, 2))
}

// P3.5: whatever is heard in a talk, Play counts what the definition counts, and the talk ends in one of its ways
func TestPlayOfAny(t *testing.T) {
	r := source(7)
	met := map[string]int{}
	known := balls{}
	for range 3000 {
		c, signal := anyTalk(r)
		rounds := 1 + r.Intn(api.LineRounds)
		var heard [][]int
		misreadings, done, far, act := 0, false, false, 0
		for len(heard) < 2*rounds && !done {
			about := c.Signals[signal]
			diver := misread(r, about, c.Kinds, max(0, r.Intn(7)-2))
			pulled := reply(c, diver)
			tender := misread(r, pulled, c.Kinds, max(0, r.Intn(7)-3))
			heard = append(heard, diver, tender)
			act, done = acted(c, diver), slices.Equal(tender, about)
			n, m := known.far(about, diver, c.Kinds), known.far(pulled, tender, c.Kinds)
			far = far || max(n, m) > api.LineFaults
			misreadings += n + m
		}
		got, n, e := line.Play(c, signal, rounds, heard)
		if far {
			met["too far"]++
			if e != api.ErrRule || n != 0 || got != (api.LineEnd{}) {
				t.Fatal(c, signal, rounds, heard, got, n, e)
			}
			continue
		}
		if e != api.OK || n != misreadings || got != end(done, act) {
			t.Fatal(c, signal, rounds, heard, got, n, e, misreadings, done, act)
		}
		if n > api.LineFaults {
			met["many"]++
			continue
		}
		met["few"]++
		if all, e := line.Ends(c, signal, rounds, n); e != api.OK || !slices.Contains(all, got) {
			t.Fatal(c, signal, rounds, heard, got, n, all, e)
		}
	}
	wantAll(t, met, "too far", "many", "few")
}

// P3.6
func TestWeak(t *testing.T) {
	for i, x := range []struct {
		c              api.LineCode
		rounds         int
		faults, signal int
		e              api.Errno
	}{
		{codeC(), 1, 3, 1, api.OK}, {codeC(), api.LineRounds, 3, 1, api.OK}, {codeD(), 1, 3, 1, api.OK}, {code(3, l(1), l(2)), 1, 2, 1, api.OK},
		{codeF(), 1, 0, 0, api.ErrNone}, {codeF(), api.LineRounds, 0, 0, api.ErrNone}, {code(0, l(1), l(2)), api.LineRounds, 0, 0, api.ErrNone},
		// neither the signal 0 nor signals of which more must be misread are weak, and of several the first one is
		{code(3, l(1), l(3, 3, 3), l(2)), 1, 2, 2, api.OK}, {code(3, l(1), l(5, 5), l(3, 3), l(3, 4)), 2, 2, 2, api.OK}, {code(3, l(3, 3, 3), l(1), l(2)), 1, 2, 1, api.OK},
		// what was misread is misread back, which one kind alone cannot do
		{code(api.LineLost, l(1), l(2)), 1, 0, 0, api.ErrNone},
		// but a diver who acts on none pulls the signal 0, of which a pull is lost, too
		{code(api.LineLost, l(4), l(3)), 1, 2, 1, api.OK}, {code(api.LineLost, l(4), l(3), l(2)), 1, 3, 1, api.OK}, {code(api.LineLost, l(5), l(3), l(2)), 1, 0, 0, api.ErrNone},
		{codeC(), 0, 0, 0, api.ErrArg}, {codeC(), -1, 0, 0, api.ErrArg}, {codeC(), api.LineRounds + 1, 0, 0, api.ErrArg}, {codeC(), math.MaxInt, 0, 0, api.ErrArg},
	} {
		if n, signal, e := line.Weak(x.c, x.rounds); e != x.e || n != x.faults || signal != x.signal {
			t.Error(i, n, signal, e)
		}
	}
	for _, c := range badCodes() {
		if n, signal, e := line.Weak(c, 1); e != api.ErrArg || n != 0 || signal != 0 {
			t.Error(c, n, signal, e)
		}
	}
}

// wrong reports whether a talk about a signal can go wrong with so many misreadings.
func wrong(known balls, c api.LineCode, signal, rounds, faults int) bool {
	for e := range talks(known, c, signal, rounds, faults) {
		if e.Done && e.Act != signal {
			return true
		}
	}
	return false
}

// P3.6, P0.3: with fewer misreadings no talk goes wrong, whatever is heard, and with as many one does
func TestWeakOfAny(t *testing.T) {
	r := source(8)
	met := map[int]int{}
	known := balls{}
	for range 200 {
		c, rounds := anyCode(r, 4, 2, 3), 1+r.Intn(api.LineRounds)
		faults, signal, e := 0, 0, api.ErrNone
	search:
		for n := range api.LineFaults + 1 {
			for s := 1; s < len(c.Signals); s++ {
				if wrong(known, c, s, rounds, n) {
					faults, signal, e = n, s, api.OK
					break search
				}
			}
		}
		met[faults]++
		if n, s, f := line.Weak(c, rounds); f != e || n != faults || s != signal {
			t.Fatal(c, rounds, n, s, f, faults, signal, e)
		}
	}
	wantAll(t, met, 0, 2, 3)
}
