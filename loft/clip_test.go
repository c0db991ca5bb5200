package loft_test

import (
	"math/rand"
	"slices"
	"testing"

	"bathyal/api"
	"bathyal/loft"
)

// P6.3
func TestWorth(t *testing.T) {
	u := sponge(0, 5, 40)
	whole := with(func(r *api.LoftRule) { r.Kerf = 0 })
	wide := with(func(r *api.LoftRule) { r.Kerf = api.LoftKerf })
	for i, x := range []struct {
		rule   api.LoftRule
		sponge api.LoftSponge
		pieces []int
		want   int
		e      api.Errno
	}{
		{ruleR(), u, l(20, 19), 140, api.OK}, {ruleR(), u, l(20, 10, 5), 150, api.OK}, {ruleR(), u, l(40), 100, api.OK}, {ruleR(), u, l(1), 0, api.OK}, {ruleR(), u, l(4, 4, 4), 0, api.OK}, {ruleR(), u, l(5, 4, 1), 10, api.OK}, {ruleR(), u, l(13, 13, 12), 120, api.OK}, {ruleR(), u, l(38, 1), 100, api.OK}, {ruleR(), u, l(36, 1, 1), 100, api.OK}, {ruleR(), sponge(2, 5, 40), l(20, 10, 5), 30, api.OK}, {ruleR(), sponge(0, 15, 40), l(20, 10, 5), 90, api.OK}, {ruleR(), sponge(0, 21, 40), l(20, 10, 5), 30, api.OK}, {ruleR(), sponge(0, 5, 1), l(1), 0, api.OK},
		{whole, u, l(20, 20), 200, api.OK}, {whole, u, l(20, 10, 10), 180, api.OK}, {wide, u, l(20, 15), 140, api.OK}, {wide, u, l(10, 10, 10), 120, api.OK}, {wide, u, l(40), 100, api.OK},
		// pieces that are too large together
		{ruleR(), u, l(20, 20), 0, api.ErrArg}, {ruleR(), u, l(13, 13, 13), 0, api.ErrArg}, {ruleR(), u, l(39, 1), 0, api.ErrArg}, {ruleR(), u, l(37, 1, 1), 0, api.ErrArg}, {ruleR(), u, l(41), 0, api.ErrArg}, {ruleR(), u, l(40, 1), 0, api.ErrArg}, {whole, u, l(20, 20, 1), 0, api.ErrArg}, {whole, u, l(21, 20), 0, api.ErrArg}, {wide, u, l(20, 16), 0, api.ErrArg}, {wide, u, l(11, 10, 10), 0, api.ErrArg}, {ruleR(), sponge(0, 5, 39), l(40), 0, api.ErrArg}, {ruleR(), sponge(0, 5, 2), l(1, 1), 0, api.ErrArg}, {ruleR(), sponge(0, 5, 0), l(1), 0, api.ErrArg},
		// lists that are no pieces
		{ruleR(), u, l(19, 20), 0, api.ErrArg}, {ruleR(), u, l(10, 5, 6), 0, api.ErrArg}, {ruleR(), u, nil, 0, api.ErrArg}, {ruleR(), sponge(0, 5, 0), nil, 0, api.ErrArg}, {ruleR(), u, l(0), 0, api.ErrArg}, {ruleR(), u, l(5, 0), 0, api.ErrArg}, {ruleR(), u, l(5, 5, 0), 0, api.ErrArg}, {ruleR(), u, l(-1), 0, api.ErrArg}, {ruleR(), u, l(5, -5), 0, api.ErrArg}, {ruleR(), u, l(1, 1, 1, 1), 0, api.ErrArg}, {ruleR(), sponge(0, 5, 0), l(0), 0, api.ErrArg}, {ruleR(), u, l(most), 0, api.ErrArg}, {ruleR(), u, l(least), 0, api.ErrArg}, {ruleR(), u, l(most, most), 0, api.ErrArg}, {ruleR(), u, l(most, most, 2), 0, api.ErrArg}, {ruleR(), u, l(5, least), 0, api.ErrArg}, {ruleR(), u, l(1<<32 + 5), 0, api.ErrArg}, {whole, u, l(1<<62, 1<<62, 1<<62), 0, api.ErrArg},
	} {
		if n, e := loft.Worth(x.rule, x.sponge, x.pieces); e != x.e || n != x.want {
			t.Error(i, n, e)
		}
	}
	for i, r := range badRules() {
		if n, e := loft.Worth(r, u, l(20)); e != api.ErrArg || n != 0 {
			t.Error(i, r, n, e)
		}
	}
	for i, s := range badSponges() {
		if n, e := loft.Worth(ruleR(), s, l(1)); e != api.ErrArg || n != 0 {
			t.Error(i, s, n, e)
		}
	}
}

// P6.3
func TestClip(t *testing.T) {
	whole := with(func(r *api.LoftRule) { r.Kerf = 0 })
	wide := with(func(r *api.LoftRule) { r.Kerf = api.LoftKerf })
	free := with(func(r *api.LoftRule) {
		for i := range r.Grades {
			r.Grades[i].Price = 0
		}
	})
	for i, x := range []struct {
		rule   api.LoftRule
		sponge api.LoftSponge
		want   []int
		worth  int
		e      api.Errno
	}{
		{ruleR(), sponge(0, 5, 40), l(20, 10, 5), 150, api.OK}, {ruleR(), sponge(0, 5, 4), l(1), 0, api.OK}, {ruleR(), sponge(0, 5, 1), l(1), 0, api.OK}, {ruleR(), sponge(2, 5, 40), l(5, 5, 5), 30, api.OK}, {ruleR(), sponge(2, 5, 16), l(5, 5), 20, api.OK}, {ruleR(), sponge(2, 5, 17), l(5, 5, 5), 30, api.OK}, {ruleR(), sponge(2, 5, 11), l(5, 5), 20, api.OK}, {ruleR(), sponge(2, 5, 10), l(5), 10, api.OK}, {ruleR(), sponge(0, 15, 40), l(10, 10, 10), 120, api.OK}, {ruleR(), sponge(0, 5, 19), l(10, 5), 50, api.OK}, {ruleR(), sponge(0, 5, 20), l(20), 100, api.OK}, {ruleR(), sponge(0, 5, 21), l(20), 100, api.OK}, {ruleR(), sponge(0, 5, 26), l(20, 5), 110, api.OK}, {ruleR(), sponge(0, 5, 25), l(20), 100, api.OK}, {ruleR(), sponge(0, 5, 31), l(20, 10), 140, api.OK},
		{whole, sponge(0, 5, 40), l(20, 20), 200, api.OK}, {whole, sponge(0, 5, 39), l(20, 10, 5), 150, api.OK}, {wide, sponge(0, 5, 40), l(20, 10), 140, api.OK}, {wide, sponge(0, 15, 40), l(10, 10, 10), 120, api.OK}, {wide, sponge(0, 15, 39), l(10, 10, 5), 90, api.OK}, {wide, sponge(0, 15, 34), l(10, 10), 80, api.OK}, {free, sponge(0, 5, 40), l(1), 0, api.OK},
		{ruleR(), sponge(0, 5, 0), nil, 0, api.ErrNone}, {whole, sponge(3, 40, 0), nil, 0, api.ErrNone},
	} {
		if p, n, e := loft.Clip(x.rule, x.sponge); e != x.e || n != x.worth || !equal(p, x.want) {
			t.Error(i, p, n, e)
		}
	}
	for i, r := range badRules() {
		for _, size := range l(0, 40) {
			if p, n, e := loft.Clip(r, sponge(0, 5, size)); e != api.ErrArg || n != 0 || len(p) != 0 {
				t.Error(i, r, p, n, e)
			}
		}
	}
	for i, s := range badSponges() {
		if p, n, e := loft.Clip(ruleR(), s); e != api.ErrArg || n != 0 || len(p) != 0 {
			t.Error(i, s, p, n, e)
		}
	}
}

// pieces returns all lists of pieces into which a sponge can be clipped, by the definition.
func pieces(kerf, size int) [][]int {
	var all [][]int
	for a := 1; a <= size; a++ {
		all = append(all, l(a))
		for b := 1; b <= a; b++ {
			if a+b+kerf <= size {
				all = append(all, l(a, b))
			}
			for c := 1; c <= b; c++ {
				if a+b+c+2*kerf <= size {
					all = append(all, l(a, b, c))
				}
			}
		}
	}
	return all
}

// worthOf returns what pieces of a sponge are worth, by the definition.
func worthOf(r api.LoftRule, s api.LoftSponge, pieces []int) int {
	worth := 0
	for _, size := range pieces {
		if g := gradeOf(r, sponge(s.Form, s.Pore, size)); g >= 0 {
			worth += r.Grades[g].Price
		}
	}
	return worth
}

// anyLoft returns a rule in which a sponge is worth something, mostly.
func anyLoft(r *rand.Rand) (api.LoftRule, api.LoftSponge) {
	rule, s := anyRule(r), anySponge(r)
	for i := range rule.Grades {
		g := &rule.Grades[i]
		if r.Intn(4) > 0 {
			g.Forms, g.Pore = 15, sp(0, api.LoftPore)
		}
		if r.Intn(2) == 0 {
			g.Size = near(r, anyOf(r, 0, s.Size), api.LoftSize)
		}
	}
	return rule, s
}

// P6.3: no pieces are worth more, nor as much, and come before
func TestClipOfAny(t *testing.T) {
	r := source(6)
	met := map[any]int{}
	for range 1500 {
		rule, s := anyLoft(r)
		got, n, e := loft.Clip(rule, s)
		if s.Size == 0 {
			if e != api.ErrNone || n != 0 || len(got) != 0 {
				t.Fatal(rule, s, got, n, e)
			}
			met["none"]++
			continue
		}
		var want []int
		worth := -1
		for _, p := range pieces(rule.Kerf, s.Size) {
			is := worthOf(rule, s, p)
			if is > worth || is == worth && (len(p) < len(want) || len(p) == len(want) && slices.Compare(p, want) < 0) {
				want, worth = p, is
			}
		}
		if e != api.OK || n != worth || !equal(got, want) {
			t.Fatal(rule, s, got, n, e, want, worth)
		}
		if again, e := loft.Worth(rule, s, got); e != api.OK || again != worth {
			t.Fatal(rule, s, got, again, e)
		}
		met[len(want)]++
		if worth == 0 {
			met["nothing"]++
		}
	}
	wantAll(t, met, any("none"), any("nothing"), any(1), any(2), any(3))
}

// P6.3: what pieces that somebody proposes are worth, and that just those are pieces into which a sponge can be clipped
func TestWorthOfAny(t *testing.T) {
	r := source(7)
	met := map[api.Errno]int{}
	for range 1500 {
		rule, s := anyLoft(r)
		var proposal []int
		for range r.Intn(5) {
			proposal = append(proposal, r.Intn(s.Size/2+3))
		}
		if r.Intn(3) > 0 {
			slices.SortFunc(proposal, func(a, b int) int { return b - a })
		}
		is := slices.ContainsFunc(pieces(rule.Kerf, s.Size), func(p []int) bool { return slices.Equal(p, proposal) })
		n, e := loft.Worth(rule, s, proposal)
		if !is && (e != api.ErrArg || n != 0) || is && (e != api.OK || n != worthOf(rule, s, proposal)) {
			t.Fatal(rule, s, proposal, n, e)
		}
		if _, most, _ := loft.Clip(rule, s); n > most {
			t.Fatal(rule, s, proposal, n, most)
		}
		met[e]++
	}
	wantAll(t, met, api.OK, api.ErrArg)
}
