package air_test

import (
	"math/rand"
	"slices"
	"strconv"
	"strings"
	"testing"

	"bathyal/air"
	"bathyal/api"
)

// inverse returns the inverse string, by the definition.
func inverse(s []int) []int {
	var all []int
	for i := len(s) - 1; i >= 0; i-- {
		all = append(all, -s[i])
	}
	return all
}

// tidied returns a string without letters that stand next to their inverse, by the definition.
func tidied(s []int) []int {
	for i := 0; i+1 < len(s); i++ {
		if s[i] == -s[i+1] {
			return tidied(slices.Concat(s[:i], s[i+2:]))
		}
	}
	return s
}

// crossed returns strings after one crossing more, by the definition.
func crossed(strings [][]int, crossing int) [][]int {
	after := slices.Clone(strings)
	if n := crossing; n > 0 {
		s, t := strings[n-1], strings[n]
		after[n-1], after[n] = tidied(slices.Concat(s, t, inverse(s))), s
	} else {
		n = -n
		s, t := strings[n-1], strings[n]
		after[n-1], after[n] = t, tidied(slices.Concat(inverse(t), s, t))
	}
	return after
}

// stringsOf returns the strings of a list of crossings, by the definition, as a text.
func stringsOf(hoses int, crossings ...[]int) string {
	var all [][]int
	for n := range hoses {
		all = append(all, l(n+1))
	}
	for _, crossing := range slices.Concat(crossings...) {
		all = crossed(all, crossing)
	}
	var texts []string
	for _, s := range all {
		text := ""
		for _, letter := range s {
			text += strconv.Itoa(letter) + " "
		}
		texts = append(texts, text)
	}
	return strings.Join(texts, ",")
}

// crossingsOf returns all crossings of so many hoses, in order.
func crossingsOf(hoses int) []int {
	if hoses == 2 {
		return l(-1, 1)
	}
	return l(-2, -1, 1, 2)
}

// everyTangle returns all lists of so many crossings, in lexicographic order.
func everyTangle(hoses, long int) [][]int {
	all := lists(long, 0, len(crossingsOf(hoses))-1)
	for _, tangle := range all {
		for i, n := range tangle {
			tangle[i] = crossingsOf(hoses)[n]
		}
	}
	return all
}

// badTangles returns tangles that are not as defined for three hoses.
func badTangles() [][]int {
	return [][]int{l(0), l(3), l(-3), l(1, 2, 0), l(1, 0, 2), l(1, 2, 3), l(1<<63 - 1), l(-1 << 63), l(-1<<63 + 1), l(1, 1, 1, 1, 1, 1, 1), make([]int, 1000)}
}

// badHoses returns numbers of hoses that are not as defined.
func badHoses() []int { return l(1, 0, -1, -2, -3, api.AirTangled+1, 1<<63-1, -1<<63) }

// P4.7
func TestEnds(t *testing.T) {
	for i, x := range []struct {
		hoses        int
		tangle, want []int
		e            api.Errno
	}{
		{3, l(1, 2), l(2, 3, 1), api.OK}, {3, l(2, 1), l(3, 1, 2), api.OK}, {3, l(-1, 2, 1), l(3, 2, 1), api.OK}, {3, nil, l(1, 2, 3), api.OK}, {2, nil, l(1, 2), api.OK}, {2, l(-1), l(2, 1), api.OK}, {2, l(1, 1, 1, 1, 1, 1), l(1, 2), api.OK}, {3, l(-2), l(1, 3, 2), api.OK},
		{2, l(2), nil, api.ErrArg}, {2, l(-2), nil, api.ErrArg},
	} {
		if got, e := air.Ends(x.hoses, x.tangle); e != x.e || !slices.Equal(got, x.want) {
			t.Error(i, got, e)
		}
	}
}

// P4.7
func TestAlike(t *testing.T) {
	for i, x := range []struct {
		hoses int
		a, b  []int
		want  bool
		e     api.Errno
	}{
		{3, l(1, 2, 1), l(2, 1, 2), true, api.OK}, {3, l(-1, -2, -1), l(-2, -1, -2), true, api.OK}, {3, l(1, 2), l(2, 1), false, api.OK}, {2, l(1), l(-1), false, api.OK}, {3, l(1, -1), nil, true, api.OK}, {2, l(-1, 1), nil, true, api.OK}, {3, l(1, 2, -1), l(-2, 1, 2), true, api.OK}, {3, l(1, 1), l(2, 2), false, api.OK}, {3, l(1, 2, 1, 2, 1, 2), l(2, 2, 1, 2, 2, 1), true, api.OK}, {3, nil, nil, true, api.OK}, {2, nil, nil, true, api.OK},
		// the ends and the sum are the same, and the tangles are not
		{3, l(1, -2, 1, -2, 1, -2), nil, false, api.OK}, {3, l(1, 1, -2, -2), nil, false, api.OK}, {3, l(1, 1, 2, 2), l(2, 2, 1, 1), false, api.OK},
		{2, l(1), l(2), false, api.ErrArg}, {2, l(-2), l(1), false, api.ErrArg},
	} {
		if is, e := air.Alike(x.hoses, x.a, x.b); e != x.e || is != x.want {
			t.Error(i, is, e)
		}
	}
}

// P4.8
func TestClearing(t *testing.T) {
	for i, x := range []struct {
		hoses        int
		tangle, want []int
		e            api.Errno
	}{
		{3, l(1, 2, 1), l(-2, -1, -2), api.OK}, {3, l(1, 2, -1), l(-2, -1, 2), api.OK}, {2, l(1, -1, 1), l(-1), api.OK}, {3, nil, nil, api.OK}, {2, nil, nil, api.OK}, {2, l(-1, -1, -1, -1, -1, -1), l(1, 1, 1, 1, 1, 1), api.OK}, {3, l(1, 1), l(-1, -1), api.OK}, {3, l(1, -2), l(2, -1), api.OK}, {3, l(2, -2, 1, -1), nil, api.OK}, {3, l(1, 2, 1, -2, -1, -2), nil, api.OK},
		{3, l(1, 2, 1, 2, 1, 2), l(-2, -2, -1, -2, -2, -1), api.OK}, {3, l(1, -2, 1, -2, 1, -2), l(2, -1, 2, -1, 2, -1), api.OK},
		{2, l(2), nil, api.ErrArg}, {2, l(-2), nil, api.ErrArg},
	} {
		if got, e := air.Clearing(x.hoses, x.tangle); e != x.e || !slices.Equal(got, x.want) {
			t.Error(i, got, e)
		}
	}
}

// P4.7, P4.8
func TestTanglesNotAsDefined(t *testing.T) {
	check := func(hoses int, tangle []int) {
		t.Helper()
		if got, e := air.Ends(hoses, tangle); e != api.ErrArg || len(got) != 0 {
			t.Error(hoses, tangle, got, e)
		}
		if is, e := air.Alike(hoses, tangle, nil); e != api.ErrArg || is {
			t.Error(hoses, tangle, is, e)
		}
		if is, e := air.Alike(hoses, nil, tangle); e != api.ErrArg || is {
			t.Error(hoses, tangle, is, e)
		}
		if got, e := air.Clearing(hoses, tangle); e != api.ErrArg || len(got) != 0 {
			t.Error(hoses, tangle, got, e)
		}
	}
	for _, tangle := range badTangles() {
		check(3, tangle)
	}
	for _, hoses := range badHoses() {
		check(hoses, nil)
	}
}

// anyTangle returns a tangle.
func anyTangle(r *rand.Rand, hoses, long int) []int {
	var tangle []int
	for range r.Intn(long + 1) {
		tangle = append(tangle, crossingsOf(hoses)[r.Intn(2*hoses-2)])
	}
	return tangle
}

// sum returns the crossings over, less those under.
func sum(tangle []int) int {
	n := 0
	for _, crossing := range tangle {
		if crossing > 0 {
			n++
		} else {
			n--
		}
	}
	return n
}

// P4.7: just those tangles are alike that have the same strings, by the definition; they have the same ends, and the same sum
func TestAlikeOfAny(t *testing.T) {
	r := source(9)
	met := map[any]int{}
	check := func(hoses int, a, b []int, same bool) {
		t.Helper()
		is, e := air.Alike(hoses, a, b)
		if e != api.OK || is != same {
			t.Fatal(hoses, a, b, is, e)
		}
		met[is]++
		v, e := air.Ends(hoses, a)
		w, f := air.Ends(hoses, b)
		if e != api.OK || f != api.OK || is && (!slices.Equal(v, w) || sum(a) != sum(b)) {
			t.Fatal(hoses, a, b, v, w)
		}
		if !is && slices.Equal(v, w) && sum(a) == sum(b) {
			met["looks alike"]++
		}
	}
	for hoses := 2; hoses <= api.AirTangled; hoses++ {
		var all [][]int
		var texts []string
		for long := range 4 {
			for _, tangle := range everyTangle(hoses, long) {
				all, texts = append(all, tangle), append(texts, stringsOf(hoses, tangle))
			}
		}
		for i, a := range all {
			for k, b := range all {
				check(hoses, a, b, texts[i] == texts[k])
			}
		}
		for range 2000 {
			a, b := anyTangle(r, hoses, api.AirCrossings), anyTangle(r, hoses, api.AirCrossings)
			check(hoses, a, b, stringsOf(hoses, a) == stringsOf(hoses, b))
		}
	}
	wantAll(t, met, any(true), any(false), any("looks alike"))
}

// P4.7: a crossing and its opposite can be left out anywhere, and 1 2 1 and 2 1 2 stand for each other
func TestAlikeMoves(t *testing.T) {
	r := source(10)
	for range 2000 {
		hoses := anyOf(r, 2, 3)
		a, b := anyTangle(r, hoses, 2), anyTangle(r, hoses, 2)
		n := crossingsOf(hoses)[r.Intn(2*hoses-2)]
		if is, e := air.Alike(hoses, slices.Concat(a, l(n, -n), b), slices.Concat(a, b)); e != api.OK || !is {
			t.Fatal(hoses, a, n, b, is, e)
		}
		c := a[:min(len(a), 1)]
		if is, e := air.Alike(3, slices.Concat(c, l(1, 2, 1), b), slices.Concat(c, l(2, 1, 2), b)); e != api.OK || !is {
			t.Fatal(c, b, is, e)
		}
	}
}

// P4.7: the hose at each place is the one that came there
func TestEndsOfAny(t *testing.T) {
	r := source(11)
	for range 2000 {
		hoses := anyOf(r, 2, 3)
		tangle := anyTangle(r, hoses, api.AirCrossings)
		places := slices.Repeat(l(0), hoses)
		for hose := range hoses {
			at := hose + 1
			for _, n := range tangle {
				switch n = max(n, -n); at {
				case n:
					at = n + 1
				case n + 1:
					at = n
				}
			}
			places[at-1] = hose + 1
		}
		if got, e := air.Ends(hoses, tangle); e != api.OK || !slices.Equal(got, places) {
			t.Fatal(hoses, tangle, got, e, places)
		}
	}
}

// P4.8: of all tangles, the clearing is the first one of the shortest lists that are alike to what undoes it, and clears it; so that tangles that are alike have the same clearing
func TestClearingOfAll(t *testing.T) {
	for hoses := 2; hoses <= api.AirTangled; hoses++ {
		first := map[string][]int{}
		var all [][]int
		for long := range api.AirCrossings + 1 {
			for _, tangle := range everyTangle(hoses, long) {
				all = append(all, tangle)
				text := stringsOf(hoses, tangle)
				if _, met := first[text]; !met {
					first[text] = tangle
				}
			}
		}
		for _, tangle := range all {
			want := first[stringsOf(hoses, inverse(tangle))]
			got, e := air.Clearing(hoses, tangle)
			if e != api.OK || !slices.Equal(got, want) || len(got) > len(tangle) {
				t.Fatal(hoses, tangle, got, e, want)
			}
			if stringsOf(hoses, tangle, got) != stringsOf(hoses) {
				t.Fatal(hoses, tangle, got)
			}
		}
	}
}

// P4.8: no other list that is as short, or shorter, and comes before, clears a tangle, when all are played out
func TestClearingIsFirst(t *testing.T) {
	r := source(12)
	for range 60 {
		hoses := anyOf(r, 2, 3)
		tangle := anyTangle(r, hoses, 4)
		got, e := air.Clearing(hoses, tangle)
		if e != api.OK {
			t.Fatal(hoses, tangle, got, e)
		}
		var want []int
	search:
		for long := range len(tangle) + 1 {
			for _, list := range everyTangle(hoses, long) {
				if stringsOf(hoses, tangle, list) == stringsOf(hoses) {
					want = list
					break search
				}
			}
		}
		if !slices.Equal(got, want) {
			t.Fatal(hoses, tangle, got, want)
		}
	}
}
