package loft_test

import (
	"testing"

	"bathyal/api"
	"bathyal/loft"
)

// P6.1
func TestCheck(t *testing.T) {
	full := api.LoftGrade{Forms: 15, Pore: sp(0, api.LoftPore), Size: sp(0, api.LoftSize), Price: api.LoftPrice}
	for i, r := range []api.LoftRule{
		ruleR(), {Grades: []api.LoftGrade{{Forms: 1}}}, {Grades: []api.LoftGrade{{Forms: 8, Pore: just(api.LoftPore), Size: just(api.LoftSize)}}},
		{Grades: []api.LoftGrade{full, full, full, full, full}, Pore: api.LoftError, Size: api.LoftError, Kerf: api.LoftKerf},
	} {
		if e := loft.Check(r); e != api.OK {
			t.Error(i, e)
		}
	}
	for i, r := range badRules() {
		if e := loft.Check(r); e != api.ErrArg {
			t.Error(i, r, e)
		}
	}
}

// P6.1: a rule that is not as defined, and a sponge or a reading that is not, is ErrArg
func TestGradeErrors(t *testing.T) {
	check := func(r api.LoftRule, s api.LoftSponge, x api.LoftReading) {
		t.Helper()
		if g, e := loft.Grade(r, s); e != api.ErrArg || g != 0 {
			t.Error(r, s, g, e)
		}
		if g, e := loft.Writes(r, s); e != api.ErrArg || len(g) != 0 {
			t.Error(r, s, g, e)
		}
		if g, e := loft.Could(r, x); e != api.ErrArg || len(g) != 0 {
			t.Error(r, x, g, e)
		}
		if g, e := loft.Others(r, x); e != api.ErrArg || len(g) != 0 {
			t.Error(r, x, g, e)
		}
		if w, n, e := loft.Look(r, x); e != api.ErrArg || w != 0 || n != 0 {
			t.Error(r, x, w, n, e)
		}
	}
	for _, r := range badRules() {
		check(r, sponge(0, 5, 21), reading(1, 5, 21))
	}
	sponges, readings := badSponges(), badReadings()
	for i, x := range readings {
		check(ruleR(), sponges[i%len(sponges)], x)
	}
	for i, s := range sponges {
		check(ruleR(), s, readings[i%len(readings)])
	}
}

// P6.1
func TestGrade(t *testing.T) {
	for i, x := range []struct {
		sponge api.LoftSponge
		want   int
	}{
		{sponge(0, 8, 22), 0}, {sponge(0, 15, 22), 1}, {sponge(2, 5, 30), 2}, {sponge(0, 0, 4), -1},
		{sponge(0, 0, 20), 0}, {sponge(1, 10, 20), 0}, {sponge(1, 10, 40), 0}, {sponge(1, 11, 40), 1}, {sponge(0, 10, 19), 1}, {sponge(0, 20, 10), 1}, {sponge(0, 21, 40), 2}, {sponge(0, 0, 9), 2}, {sponge(3, 0, 40), 2}, {sponge(3, 40, 5), 2}, {sponge(3, 40, 4), -1}, {sponge(0, 0, 0), -1},
	} {
		if g, e := loft.Grade(ruleR(), x.sponge); e != api.OK || g != x.want {
			t.Error(i, g, e)
		}
	}
}

// P6.1
func TestGradeOfAny(t *testing.T) {
	r := source(1)
	met := map[int]int{}
	for range 20000 {
		rule, s := anyRule(r), anySponge(r)
		g, e := loft.Grade(rule, s)
		if e != api.OK || g != gradeOf(rule, s) {
			t.Fatal(rule, s, g, e)
		}
		met[g]++
	}
	wantAll(t, met, -1, 0, 1, 2, 3, 4)
}

// P6.1
func TestCould(t *testing.T) {
	sharp := with(func(r *api.LoftRule) { r.Pore, r.Size = 0, 0 })
	for i, x := range []struct {
		rule          api.LoftRule
		reading       api.LoftReading
		could, others []int
	}{
		{ruleR(), reading(1, 9, 21), l(0, 1), l(0, 1)}, {ruleR(), reading(1, 5, 25), l(0), l(0, 1)}, {ruleR(), reading(5, 5, 30), l(0, 2), l(0, 2)}, {ruleR(), reading(1, 0, 3), l(-1, 2), l(-1, 2)}, {ruleR(), reading(1, 0, 8), l(1, 2), l(-1, 1, 2)}, {ruleR(), reading(1, 0, 10), l(1, 2), l(-1, 1, 2)},
		// one more, and it is possible no more
		{ruleR(), reading(1, 0, 23), l(0), l(0, 1)}, {ruleR(), reading(1, 0, 22), l(0, 1), l(0, 1)}, {ruleR(), reading(1, 0, 26), l(0), l(0)}, {ruleR(), reading(1, 8, 40), l(0), l(0, 1)}, {ruleR(), reading(1, 9, 40), l(0, 1), l(0, 1)}, {ruleR(), reading(1, 6, 40), l(0), l(0)}, {ruleR(), reading(1, 7, 40), l(0), l(0, 1)},
		{sharp, reading(1, 10, 20), l(0), l(0)}, {sharp, reading(1, 11, 20), l(1), l(1)}, {sharp, reading(15, 11, 20), l(1, 2), l(1, 2)}, {sharp, reading(15, 40, 4), l(-1), l(-1)},
		// nothing is below 0, or above the greatest pore and size
		{ruleR(), reading(1, 0, 0), l(-1), l(-1, 2)}, {ruleR(), reading(8, 40, 40), l(2), l(2)}, {ruleR(), reading(15, 40, 40), l(2), l(2)}, {ruleR(), reading(15, 0, 40), l(0, 2), l(0, 2)},
	} {
		if g, e := loft.Could(x.rule, x.reading); e != api.OK || !equal(g, x.could) {
			t.Error(i, g, e)
		}
		if g, e := loft.Others(x.rule, x.reading); e != api.OK || !equal(g, x.others) {
			t.Error(i, g, e)
		}
	}
	for i, x := range []struct {
		sponge api.LoftSponge
		want   []int
	}{
		{sponge(0, 8, 22), l(0, 1)}, {sponge(0, 5, 30), l(0)}, {sponge(2, 0, 0), l(-1)}, {sponge(0, 0, 2), l(-1, 2)}, {sponge(0, 0, 1), l(-1)}, {sponge(0, 8, 23), l(0)}, {sponge(0, 9, 23), l(0, 1)}, {sponge(2, 9, 21), l(2)}, {sponge(3, 40, 40), l(2)}, {sponge(1, 12, 8), l(1, 2)}, {sponge(1, 12, 7), l(-1, 1, 2)}, {sponge(1, 12, 6), l(-1, 2)}, {sponge(1, 9, 20), l(0, 1)}, {sponge(1, 20, 12), l(1, 2)},
	} {
		if g, e := loft.Writes(ruleR(), x.sponge); e != api.OK || !equal(g, x.want) {
			t.Error(i, g, e)
		}
	}
}

// P6.1, P0.6: the grades that are returned are those of all sponges, and of all readings, by the definition
func TestCouldOfAny(t *testing.T) {
	r := source(2)
	met := map[int]int{}
	for range 600 {
		rule, x := anyRead(r)
		var could, others []int
		for _, s := range canBe(rule, x) {
			could = append(could, gradeOf(rule, s))
			var writes []int
			for _, again := range readings(rule, s) {
				writes = append(writes, gradeOf(rule, sponge(s.Form, again.Pore, again.Size)))
			}
			writes = sorted(writes)
			others = append(others, writes...)
			if r.Intn(20) == 0 {
				if g, e := loft.Writes(rule, s); e != api.OK || !equal(g, writes) {
					t.Fatal(rule, s, g, e, writes)
				}
			}
		}
		could, others = sorted(could), sorted(others)
		if g, e := loft.Could(rule, x); e != api.OK || !equal(g, could) {
			t.Fatal(rule, x, g, e, could)
		}
		if g, e := loft.Others(rule, x); e != api.OK || !equal(g, others) {
			t.Fatal(rule, x, g, e, others)
		}
		met[len(could)]++
		if len(others) > len(could) {
			met[-1]++
		}
	}
	wantAll(t, met, -1, 1, 2, 3, 4, 5)
}

// P6.1: if only one grade can be written of a sponge, any two sorters write the same
func TestTwoSorters(t *testing.T) {
	r := source(3)
	met := map[bool]int{}
	for range 1000 {
		rule, s := anyRule(r), anySponge(r)
		writes, e := loft.Writes(rule, s)
		var all []int
		for _, x := range readings(rule, s) {
			g, _ := loft.Grade(rule, sponge(s.Form, x.Pore, x.Size))
			all = append(all, g)
		}
		if e != api.OK || !equal(writes, sorted(all)) {
			t.Fatal(rule, s, writes, e)
		}
		met[len(writes) == 1]++
	}
	wantAll(t, met, true, false)
}

// P6.2
func TestLook(t *testing.T) {
	const atForm, atPore, atSize = api.LoftLookForm, api.LoftLookPore, api.LoftLookSize
	sharp := with(func(r *api.LoftRule) { r.Pore, r.Size = 0, 0 })
	corner := api.LoftRule{Grades: []api.LoftGrade{{Forms: 1, Pore: sp(0, 5), Size: sp(0, 40)}, {Forms: 1, Pore: sp(6, 40), Size: sp(0, 5)}, {Forms: 1, Pore: sp(6, 40), Size: sp(6, 40)}}, Pore: 1, Size: 1}
	for i, x := range []struct {
		rule    api.LoftRule
		reading api.LoftReading
		look    api.LoftLook
		worst   int
		e       api.Errno
	}{
		{ruleR(), reading(1, 5, 21), atSize, 1, api.OK}, {ruleR(), reading(5, 5, 30), atForm, 1, api.OK}, {ruleR(), reading(1, 11, 30), atPore, 1, api.OK}, {ruleR(), reading(1, 0, 3), atSize, 1, api.OK}, {ruleR(), reading(15, 39, 3), atSize, 1, api.OK},
		// looks that do as well as others
		{ruleR(), reading(1, 9, 21), atForm, 2, api.OK}, {ruleR(), reading(5, 10, 25), atForm, 2, api.OK}, {ruleR(), reading(1, 19, 12), atForm, 2, api.OK}, {ruleR(), reading(15, 9, 21), atForm, 2, api.OK}, {corner, reading(1, 5, 5), atPore, 2, api.OK},
		{ruleR(), reading(5, 19, 6), atSize, 1, api.OK}, {ruleR(), reading(5, 19, 7), atSize, 2, api.OK}, {ruleR(), reading(12, 19, 7), atSize, 1, api.OK},
		{sharp, reading(15, 5, 30), atForm, 1, api.OK},
		// just one grade can be already
		{ruleR(), reading(1, 5, 30), 0, 0, api.ErrNone}, {ruleR(), reading(12, 5, 30), 0, 0, api.ErrNone}, {ruleR(), reading(15, 0, 0), 0, 0, api.ErrNone}, {sharp, reading(3, 10, 20), 0, 0, api.ErrNone},
	} {
		if w, n, e := loft.Look(x.rule, x.reading); e != x.e || w != x.look || n != x.worst {
			t.Error(i, w, n, e)
		}
	}
}

// seenBy returns what a look at a sponge sees.
func seenBy(look api.LoftLook, s api.LoftSponge) int {
	switch look {
	case api.LoftLookForm:
		return s.Form
	case api.LoftLookPore:
		return s.Pore
	}
	return s.Size
}

// P6.2: whatever is seen, at most so many grades can be then, and with no other look fewer
func TestLookOfAny(t *testing.T) {
	r := source(4)
	met := map[any]int{}
	for range 2500 {
		rule, x := anyRead(r)
		could, _ := loft.Could(rule, x)
		sponges := canBe(rule, x)
		var look api.LoftLook
		worst := 0
		for _, other := range []api.LoftLook{api.LoftLookForm, api.LoftLookPore, api.LoftLookSize} {
			grades := map[int][]int{}
			for _, s := range sponges {
				grades[seenBy(other, s)] = append(grades[seenBy(other, s)], gradeOf(rule, s))
			}
			of := 0
			for _, all := range grades {
				of = max(of, len(sorted(all)))
			}
			if worst == 0 || of < worst {
				look, worst = other, of
			}
		}
		w, n, e := loft.Look(rule, x)
		if len(could) == 1 {
			if e != api.ErrNone || w != 0 || n != 0 {
				t.Fatal(rule, x, w, n, e)
			}
			met["one"]++
			continue
		}
		if e != api.OK || w != look || n != worst {
			t.Fatal(rule, x, w, n, e, look, worst)
		}
		met[w]++
		met[n]++
	}
	wantAll(t, met, any("one"), any(api.LoftLookForm), any(api.LoftLookPore), any(api.LoftLookSize), any(1), any(2), any(3), any(4))
}

// P6.9: lesser errors, and fewer forms, never make more grades possible
func TestLesserErrors(t *testing.T) {
	r := source(5)
	met := map[string]int{}
	for range 3000 {
		rule, x := anyRead(r)
		better, fewer := rule, x
		better.Pore, better.Size = r.Intn(rule.Pore+1), r.Intn(rule.Size+1)
		if forms := x.Forms & anyForms(r); forms > 0 {
			fewer.Forms = forms
		}
		within := func(less, more []int) {
			t.Helper()
			if len(less) == 0 || !equal(sorted(append(append([]int{}, less...), more...)), more) {
				t.Fatal(rule, x, less, more)
			}
			if len(less) < len(more) {
				met["fewer"]++
			}
			if equal(less, more) {
				met["as many"]++
			}
		}
		was, _ := loft.Could(rule, x)
		is, _ := loft.Could(better, fewer)
		within(is, was)
		was, _ = loft.Others(rule, x)
		is, _ = loft.Others(better, fewer)
		within(is, was)
		s := anySponge(r)
		was, _ = loft.Writes(rule, s)
		is, _ = loft.Writes(better, s)
		within(is, was)
	}
	wantAll(t, met, "fewer", "as many")
}
