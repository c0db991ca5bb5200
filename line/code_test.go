package line_test

import (
	"slices"
	"testing"

	"bathyal/api"
	"bathyal/line"
)

// P3.2
func TestCheck(t *testing.T) {
	for i, c := range []api.LineCode{
		codeC(), codeD(), codeF(), code(0, l(5, 5, 5), l(1)), code(allKinds, l(1), l(1, 1)), code(3, l(2), l(1)),
		code(3, l(1), l(2), l(3), l(4), l(5), l(1, 1)), code(3, l(1, 2), l(2, 1)), code(3, l(1, 1, 1), l(1, 1), l(1)),
	} {
		if e := line.Check(c); e != api.OK {
			t.Error(i, e)
		}
	}
	for i, c := range badCodes() {
		if e := line.Check(c); e != api.ErrArg {
			t.Error(i, e)
		}
	}
}

// P3.2
func TestMeant(t *testing.T) {
	for i, x := range []struct {
		c      api.LineCode
		heard  []int
		faults int
		want   []int
		e      api.Errno
	}{
		{codeC(), l(2), 1, l(0, 1), api.OK}, {codeC(), l(2), 2, l(0, 1, 2), api.OK}, {codeD(), l(4), 1, l(1, 2), api.OK},
		{codeC(), l(2), 0, nil, api.OK}, {codeC(), l(2, 2), 0, l(2), api.OK}, {codeC(), nil, 0, nil, api.OK}, {codeC(), nil, 1, l(0), api.OK}, {codeC(), nil, 3, l(0, 1), api.OK},
		{codeC(), l(18, 18, 18, 18, 18, 18), 3, nil, api.OK},
		// as far as misreadings of the signal go, not as those of what was heard
		{code(api.LineLost, l(1), l(3)), l(2), 3, l(1), api.OK}, {code(api.LineAdded, l(1), l(3)), l(2), 3, l(0), api.OK},
		{code(api.LineJoined, l(1, 3), l(4)), l(4), 3, l(0, 1), api.OK}, {code(api.LineParted, l(1, 3), l(4)), l(4), 3, l(1), api.OK},
		{code(0, l(1), l(2)), l(2), 3, l(1), api.OK}, {code(0, l(1), l(2)), l(3), 3, nil, api.OK},
		{codeC(), l(2), -1, nil, api.ErrArg}, {codeC(), l(2), api.LineFaults + 1, nil, api.ErrArg},
	} {
		if got, e := line.Meant(x.c, x.heard, x.faults); e != x.e || !equal(got, x.want) {
			t.Error(i, got, e)
		}
	}
	for _, w := range badWords() {
		if got, e := line.Meant(codeC(), w, 1); e != api.ErrArg || len(got) != 0 {
			t.Error(w, got, e)
		}
	}
	for _, c := range badCodes() {
		if got, e := line.Meant(c, l(1), 1); e != api.ErrArg || len(got) != 0 {
			t.Error(c, got, e)
		}
	}
}

// P3.2, P0.3: those signals are meant that the definition says, and among them is what was pulled, whatever was misread
func TestMeantOfAny(t *testing.T) {
	r := source(3)
	met := map[int]int{}
	known := balls{}
	for range 500 {
		c := anyCode(r, api.LineSignals, 2, 4)
		for range 10 {
			pulled, faults := r.Intn(len(c.Signals)), r.Intn(api.LineFaults+1)
			heard := misread(r, c.Signals[pulled], c.Kinds, faults)
			var want []int
			for signal, w := range c.Signals {
				if known.far(w, heard, c.Kinds) <= faults {
					want = append(want, signal)
				}
			}
			met[len(want)]++
			got, e := line.Meant(c, heard, faults)
			if e != api.OK || !equal(got, want) || !slices.Contains(got, pulled) {
				t.Fatal(c, heard, faults, got, e, want, pulled)
			}
		}
	}
	wantAll(t, met, 1, 2, 3, 4, 5, 6)
}

// P3.3
func TestNoticesAndRights(t *testing.T) {
	for i, x := range []struct {
		c               api.LineCode
		faults          int
		notices, rights bool
		a, b            int
		word            []int
		e               api.Errno
	}{
		{codeC(), 0, true, true, 0, 0, nil, api.ErrNone}, {codeC(), 1, true, false, 0, 1, l(2), api.OK}, {codeC(), 2, false, false, 0, 1, l(1), api.OK},
		{codeF(), 1, true, true, 0, 0, nil, api.ErrNone}, {codeF(), 2, true, false, 0, 1, l(1, 1), api.OK},
		{code(0, l(1), l(2)), 2, true, true, 0, 0, nil, api.ErrNone},
		// one of both is heard as the other one, whichever comes first
		{code(api.LineLost, l(1), l(2)), 1, false, false, 0, 1, l(1), api.OK}, {code(api.LineLost, l(2), l(1)), 1, false, false, 0, 1, l(1), api.OK}, {code(api.LineAdded, l(1), l(2)), 1, false, false, 0, 1, l(2), api.OK},
		// a word is heard of two signals that are not heard as each other: here it is the empty one
		{code(api.LineLost, l(1), l(1, 1)), 2, false, false, 0, 1, nil, api.OK}, {code(api.LineLost, l(1, 1), l(2)), 1, true, false, 0, 1, l(1), api.OK}, {code(api.LineLost, l(1, 1), l(2)), 2, true, false, 0, 1, nil, api.OK},
		{code(api.LineJoined, l(1, 3), l(2, 2)), 1, true, false, 0, 1, l(4), api.OK}, {code(api.LineParted, l(1, 3), l(2, 2)), 1, true, false, 0, 1, l(1, 1, 2), api.OK}, {code(api.LineParted, l(1, 3), l(2, 3)), 2, true, true, 0, 0, nil, api.ErrNone},
		// the first signals count more than the first word
		{code(api.LineAdded, l(5), l(4), l(1), l(1, 1)), 1, false, false, 0, 1, l(5), api.OK}, {code(api.LineAdded, l(1), l(4), l(1, 1), l(5)), 1, false, false, 0, 2, l(1, 1), api.OK}, {code(api.LineAdded, l(5), l(1), l(3, 3), l(1, 1), l(3, 3, 1)), 1, false, false, 1, 3, l(1, 1), api.OK},
		// and of the words it is the first one, not the nearest one
		{code(3, l(2, 2), l(2)), 1, true, false, 0, 1, l(1, 2), api.OK}, {code(3, l(2, 2), l(2)), 2, false, false, 0, 1, l(1, 1), api.OK},
	} {
		if is, e := line.Notices(x.c, x.faults); e != api.OK || is != x.notices {
			t.Error(i, is, e)
		}
		if is, e := line.Rights(x.c, x.faults); e != api.OK || is != x.rights {
			t.Error(i, is, e)
		}
		if a, b, w, e := line.Clash(x.c, x.faults); e != x.e || a != x.a || b != x.b || !equal(w, x.word) {
			t.Error(i, a, b, w, e)
		}
	}
	check := func(c api.LineCode, faults int) {
		t.Helper()
		if is, e := line.Notices(c, faults); e != api.ErrArg || is {
			t.Error(c, faults, is, e)
		}
		if is, e := line.Rights(c, faults); e != api.ErrArg || is {
			t.Error(c, faults, is, e)
		}
		if a, b, w, e := line.Clash(c, faults); e != api.ErrArg || a != 0 || b != 0 || len(w) != 0 {
			t.Error(c, faults, a, b, w, e)
		}
	}
	check(codeC(), -1)
	check(codeC(), api.LineFew+1)
	for _, c := range badCodes() {
		check(c, 1)
	}
}

// clashes returns the first two signals of which a word is heard, and the first such word, by the definition.
func clashes(known balls, c api.LineCode, faults int) (int, int, []int, api.Errno) {
	for a := range c.Signals {
		for b := a + 1; b < len(c.Signals); b++ {
			for _, w := range within(known.of(c.Signals[a], c.Kinds), faults) {
				if known.far(c.Signals[b], w, c.Kinds) <= faults {
					return a, b, w, api.OK
				}
			}
		}
	}
	return 0, 0, nil, api.ErrNone
}

// mistaken reports whether a signal is heard as another one, by the definition.
func mistaken(known balls, c api.LineCode, faults int) bool {
	for a, v := range c.Signals {
		for b, w := range c.Signals {
			if a != b && known.far(v, w, c.Kinds) <= faults {
				return true
			}
		}
	}
	return false
}

// P3.3
func TestClashOfAny(t *testing.T) {
	r := source(4)
	met := map[string]int{}
	known := balls{}
	for range 1500 {
		c, faults := anyCode(r, 4, 2, api.LinePulls), r.Intn(api.LineFew+1)
		first, second, heard, want := clashes(known, c, faults)
		notices := !mistaken(known, c, faults)
		if is, e := line.Notices(c, faults); e != api.OK || is != notices {
			t.Fatal(c, faults, is, e)
		}
		if is, e := line.Rights(c, faults); e != api.OK || is != (want == api.ErrNone) {
			t.Fatal(c, faults, is, e)
		}
		if a, b, w, e := line.Clash(c, faults); e != want || a != first || b != second || !equal(w, heard) {
			t.Fatal(c, faults, a, b, w, e, first, second, heard, want)
		}
		switch {
		case want == api.ErrNone:
			met["right"]++
		case notices:
			met["noticed"]++
		default:
			met["not noticed"]++
		}
	}
	wantAll(t, met, "right", "noticed", "not noticed")
}

// P3.3: what is set right has one meaning alone, and twice as many misreadings are noticed if they can be undone
func TestRightMeansOne(t *testing.T) {
	r := source(5)
	undone, ones := 0, 0
	for range 3000 {
		c, faults := anyCode(r, 3, 2, api.LinePulls), 1+r.Intn(api.LineFew)
		if is, e := line.Rights(c, faults); e != api.OK || !is {
			continue
		}
		for signal, w := range c.Signals {
			heard := misread(r, w, c.Kinds, faults)
			if got, e := line.Meant(c, heard, faults); e != api.OK || !equal(got, l(signal)) {
				t.Fatal(c, heard, faults, got, e)
			}
			ones++
		}
		if faults == 1 && undo(c.Kinds)&^c.Kinds == 0 && c.Kinds > 0 {
			if is, e := line.Notices(c, 2*faults); e != api.OK || !is {
				t.Fatal(c, faults, is, e)
			}
			undone++
		}
	}
	if undone < 5 || ones < 5 {
		t.Error(undone, ones)
	}
}
