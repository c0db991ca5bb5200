package rescue_test

import (
	"slices"
	"testing"

	"bathyal/api"
	"bathyal/rescue"
)

// P9.4
func TestRule(t *testing.T) {
	for i, r := range []api.RescueRule{ruleR(), rule(1, 0, 0, 1, 1), rule(40, 60, 40, 60, 6)} {
		if e := rescue.Rule(r); e != api.OK {
			t.Error(i, e)
		}
	}
	for i, r := range badRules() {
		if e := rescue.Rule(r); e != api.ErrArg {
			t.Error(i, r, e)
		}
	}
}

// P9.4
func TestFits(t *testing.T) {
	for i, x := range []struct {
		book []api.RescueEntry
		days []int
		want bool
	}{
		{bookA(), l(0, 1, 3, 5, 9), true}, {bookA(), l(0, 2, 4, 6, 9), true}, {bookA(), l(0, 0, 3, 5, 9), false}, {bookA(), l(0, 3, 3, 5, 9), false}, {bookA(), l(0, 1, 3, 5, 8), false}, {bookA(), l(1, 1, 3, 5, 9), false}, {bookA(), l(60, 60, 60, 60, 60), false}, {bookA(), l(0, 0, 0, 0, 0), false},
		{nil, nil, true}, {book(dive(40, 57, 60)), l(60), true}, {book(dive(0, 57, 60)), l(57), true}, {book(dive(0, 57, 60)), l(56), false}, {book(test(0, 3)), l(0), true}, {book(test(0, 3)), l(3), true}, {book(test(0, 3)), l(4), false},
		// the same day, or an earlier one
		{book(pain(3, 6), test(3, 6)), l(5, 5), true}, {book(pain(3, 6), test(3, 6)), l(5, 6), true}, {book(pain(3, 6), test(3, 6)), l(6, 5), false}, {torn(), l(5, 4), false}, {torn(), l(4, 4), false}, {torn(), l(5, 5), false}, {book(pain(3, 6), test(0, 3)), l(3, 3), true}, {book(lesson(3, 6), pain(3, 6), test(3, 6)), l(5, 6, 5), false}, {book(lesson(3, 6), pain(3, 6), test(3, 6)), l(6, 4, 5), false},
	} {
		if is, e := rescue.Fits(x.book, x.days); e != api.OK || is != x.want {
			t.Error(i, is, e)
		}
		if is, e := rescue.May(ruleR(), x.book, x.days, 60, 0); !x.want && (e != api.ErrArg || is) || x.want && e != api.OK {
			t.Error(i, is, e)
		}
	}
}

// P9.4
func TestMay(t *testing.T) {
	deep := book(lesson(0, 0), lesson(0, 0), dive(15, 4, 5), dive(16, 5, 6))
	harsh := rule(10, 0, 0, 60, 1)
	for i, x := range []struct {
		r          api.RescueRule
		book       []api.RescueEntry
		days       []int
		day, depth int
		want       bool
	}{
		{ruleR(), bookA(), l(0, 1, 3, 5, 9), 10, 20, true}, {ruleR(), bookA(), l(0, 1, 3, 6, 9), 10, 20, false}, {ruleR(), bookA(), l(0, 1, 3, 6, 9), 11, 20, true}, {ruleR(), bookA(), l(0, 1, 3, 5, 9), 9, 20, false}, {ruleR(), nil, nil, 0, 0, true}, {ruleR(), nil, nil, 60, 1, false},
		// lessons: of earlier days, for so many times the step
		{ruleR(), bookB(), l(0), 1, 10, true}, {ruleR(), bookB(), l(0), 1, 11, false}, {ruleR(), bookB(), l(0), 0, 1, false}, {ruleR(), bookB(), l(0), 0, 0, true}, {ruleR(), bookA(), l(0, 2, 3, 5, 9), 2, 20, false}, {ruleR(), bookA(), l(0, 2, 3, 5, 9), 3, 20, true}, {ruleR(), bookA(), l(0, 1, 3, 5, 9), 2, 20, true}, {rule(1, 0, 0, 1, 6), slices.Repeat(bookB(), 6), l(0, 0, 0, 0, 0, 0), 1, 6, true}, {rule(1, 0, 0, 1, 6), slices.Repeat(bookB(), 6), l(0, 0, 0, 0, 0, 0), 1, 7, false}, {rule(40, 0, 0, 1, 6), bookB(), l(0), 1, 40, true},
		// rest: so many days after any pain, if it is of an earlier day
		{ruleR(), book(pain(5, 5), test(6, 6)), l(5, 6), 9, 0, false}, {ruleR(), book(pain(5, 5), test(6, 6)), l(5, 6), 10, 0, true}, {ruleR(), book(pain(5, 5), test(6, 6)), l(5, 6), 5, 0, true}, {ruleR(), book(pain(2, 2), pain(5, 5), test(6, 6)), l(2, 5, 6), 9, 0, false}, {ruleR(), book(pain(2, 2), pain(5, 5), test(6, 6)), l(2, 5, 6), 10, 0, true}, {rule(10, 0, 40, 1, 6), book(pain(5, 5), test(6, 6)), l(5, 6), 7, 0, true}, {rule(10, 1, 40, 1, 6), book(pain(5, 5), test(6, 6)), l(5, 6), 7, 0, true}, {rule(10, 60, 40, 1, 6), book(pain(0, 0), test(1, 1)), l(0, 1), 59, 0, false}, {rule(10, 60, 40, 1, 6), book(pain(0, 0), test(1, 1)), l(0, 1), 60, 0, true},
		// a test: of a later day than the pain, and of an earlier one than the dive, after each pain
		{rule(10, 0, 40, 1, 6), book(pain(5, 5)), l(5), 60, 0, false}, {rule(10, 0, 40, 1, 6), book(pain(5, 5)), l(5), 6, 0, false}, {rule(10, 0, 40, 1, 6), book(pain(5, 5)), l(5), 5, 0, true}, {rule(10, 0, 40, 1, 6), book(pain(5, 5), test(5, 5)), l(5, 5), 60, 0, false}, {rule(10, 0, 40, 1, 6), book(pain(5, 5), test(5, 6)), l(5, 6), 6, 0, false}, {rule(10, 0, 40, 1, 6), book(pain(5, 5), test(5, 6)), l(5, 6), 7, 0, true}, {rule(10, 0, 40, 1, 6), book(test(4, 4), pain(5, 5)), l(4, 5), 9, 0, false}, {rule(10, 0, 40, 1, 6), book(test(5, 5), pain(5, 5)), l(5, 5), 9, 0, false}, {rule(10, 0, 40, 1, 6), book(pain(4, 4), test(5, 5), pain(6, 6)), l(4, 5, 6), 9, 0, false}, {rule(10, 0, 40, 1, 6), book(pain(4, 4), test(5, 5), pain(6, 6)), l(4, 5, 6), 6, 0, true}, {rule(10, 0, 40, 1, 6), book(pain(4, 4), pain(5, 5), test(5, 5)), l(4, 5, 5), 9, 0, false}, {rule(10, 0, 40, 1, 6), book(pain(4, 4), pain(5, 5), test(6, 6)), l(4, 5, 6), 9, 0, true}, {rule(10, 0, 40, 1, 6), book(pain(4, 4), pain(5, 5), test(5, 5), test(6, 6)), l(4, 5, 5, 6), 9, 0, true}, {rule(10, 0, 40, 1, 6), book(pain(4, 4), test(5, 5), test(5, 5), lesson(6, 6)), l(4, 5, 5, 6), 7, 10, true}, {rule(10, 0, 40, 1, 6), book(pain(0, 0), test(0, 1)), l(0, 0), 2, 0, false}, {rule(10, 0, 40, 1, 6), book(pain(0, 0), test(0, 1)), l(0, 1), 2, 0, true}, {rule(10, 0, 40, 1, 6), book(test(0, 0)), l(0), 2, 0, true},
		// a pause: so many deep dives on the last days, for a dive that is deep itself
		{ruleR(), deep, l(0, 0, 5, 5), 8, 15, false}, {ruleR(), deep, l(0, 0, 5, 5), 9, 15, true}, {ruleR(), deep, l(0, 0, 5, 5), 8, 14, true}, {ruleR(), deep, l(0, 0, 4, 5), 8, 15, true}, {ruleR(), deep, l(0, 0, 4, 5), 7, 15, false}, {ruleR(), deep, l(0, 0, 5, 6), 6, 15, true}, {ruleR(), deep, l(0, 0, 5, 5), 5, 15, true}, {ruleR(), deep, l(0, 0, 5, 5), 6, 20, false}, {rule(10, 5, 16, 3, 2), deep, l(0, 0, 5, 5), 8, 16, true}, {rule(10, 5, 16, 3, 1), deep, l(0, 0, 5, 5), 8, 16, false}, {rule(10, 5, 17, 3, 1), deep, l(0, 0, 5, 5), 8, 17, true}, {rule(10, 5, 15, 3, 3), deep, l(0, 0, 5, 5), 8, 15, true}, {rule(10, 5, 15, 1, 2), deep, l(0, 0, 5, 5), 6, 15, false}, {rule(10, 5, 15, 1, 2), deep, l(0, 0, 5, 5), 7, 15, true}, {harsh, book(dive(0, 0, 0)), l(0), 60, 0, false}, {harsh, book(dive(0, 0, 0)), l(0), 0, 0, true}, {rule(10, 0, 0, 59, 1), book(dive(0, 0, 0)), l(0), 60, 0, true}, {rule(40, 0, 40, 60, 1), book(lesson(0, 0), dive(40, 0, 0)), l(0, 0), 60, 40, false}, {rule(40, 0, 40, 60, 1), book(lesson(0, 0), dive(40, 0, 0)), l(0, 0), 60, 39, true}, {rule(40, 0, 40, 60, 1), book(lesson(0, 0), dive(39, 0, 0)), l(0, 0), 60, 40, true},
	} {
		if is, e := rescue.May(x.r, x.book, x.days, x.day, x.depth); e != api.OK || is != x.want {
			t.Error(i, is, e)
		}
	}
}

// word is what is known of a dive, and what may be lacking for it.
type word struct {
	known api.RescueWord
	lacks []int
}

// P9.4, P9.5
func TestKnownAndLacks(t *testing.T) {
	deep := book(lesson(0, 0), lesson(0, 0), dive(15, 4, 5), dive(16, 5, 6))
	// either a lesson or a test is lacking on the day 6: in each truth something is, but not always the same
	never := book(pain(1, 1), test(4, 6), lesson(6, 7))
	const no, may, yes = api.RescueNever, api.RescueMay, api.RescueSurely
	for i, x := range []struct {
		book       []api.RescueEntry
		day, depth int
		want       word
	}{
		{bookA(), 12, 20, word{yes, nil}}, {bookA(), 10, 20, word{may, l(1)}}, {bookA(), 9, 5, word{no, l(1, 2)}}, {bookA(), 5, 10, word{yes, nil}}, {bookA(), 6, 10, word{may, l(1, 2)}}, {bookA(), 9, 25, word{no, l(0, 1, 2)}}, {bookA(), 7, 5, word{no, l(1, 2)}}, {bookA(), 11, 20, word{yes, nil}}, {bookA(), 11, 21, word{no, l(0)}}, {bookA(), 2, 20, word{may, l(0)}}, {bookA(), 3, 20, word{yes, nil}}, {bookA(), 1, 20, word{no, l(0)}},
		{deep, 8, 15, word{may, l(3)}}, {deep, 7, 15, word{no, l(3)}}, {deep, 9, 15, word{yes, nil}}, {deep, 7, 14, word{yes, nil}}, {deep, 7, 21, word{no, l(0, 3)}}, {deep, 6, 15, word{may, l(3)}}, {deep, 5, 15, word{yes, nil}},
		{nil, 0, 0, word{yes, nil}}, {nil, 60, 0, word{yes, nil}}, {nil, 60, 1, word{no, l(0)}}, {nil, 60, 40, word{no, l(0)}}, {bookB(), 0, 0, word{yes, nil}}, {bookB(), 0, 10, word{no, l(0)}}, {bookB(), 1, 10, word{yes, nil}},
		{never, 6, 10, word{no, l(0, 2)}}, {never, 7, 10, word{may, l(0)}}, {never, 8, 10, word{yes, nil}}, {never, 5, 0, word{no, l(1, 2)}}, {never, 6, 0, word{may, l(2)}}, {never, 1, 0, word{yes, nil}},
		// the order of the book rules days out: the test is later than the pain, in all truths or in some
		{book(pain(3, 5), test(2, 5)), 30, 0, word{may, l(2)}}, {book(pain(3, 5), test(3, 3)), 30, 0, word{no, l(2)}}, {book(pain(3, 5), test(6, 6)), 30, 0, word{yes, nil}}, {book(test(3, 6), pain(3, 3)), 30, 0, word{no, l(2)}}, {book(lesson(3, 6), pain(2, 4), lesson(4, 4), test(5, 5)), 5, 20, word{no, l(1, 2)}}, {book(lesson(3, 6), lesson(2, 4)), 5, 20, word{yes, nil}}, {book(lesson(3, 6), lesson(2, 4)), 4, 20, word{may, l(0)}},
		// all four
		{book(dive(20, 3, 6), dive(20, 3, 6), pain(5, 6)), 7, 20, word{no, l(0, 1, 2, 3)}},
	} {
		if w, e := rescue.Known(ruleR(), x.book, x.day, x.depth); e != api.OK || w != x.want.known {
			t.Error(i, w, e)
		}
		if y, e := rescue.Lacks(ruleR(), x.book, x.day, x.depth); e != api.OK || !slices.Equal(y, x.want.lacks) {
			t.Error(i, y, e)
		}
	}
}

// P9.6
func TestDeepest(t *testing.T) {
	deep := book(lesson(0, 0), lesson(0, 0), dive(15, 4, 5), dive(16, 5, 6))
	for i, x := range []struct {
		r    api.RescueRule
		book []api.RescueEntry
		day  int
		want int
		e    api.Errno
	}{
		{ruleR(), bookA(), 12, 20, api.OK}, {ruleR(), bookA(), 11, 20, api.OK}, {ruleR(), bookA(), 10, 0, api.ErrNone}, {ruleR(), bookA(), 9, 0, api.ErrNone}, {ruleR(), bookA(), 5, 20, api.OK}, {ruleR(), bookA(), 2, 10, api.OK}, {ruleR(), bookA(), 0, 0, api.OK}, {ruleR(), deep, 8, 14, api.OK}, {ruleR(), deep, 9, 20, api.OK}, {ruleR(), bookB(), 1, 10, api.OK}, {ruleR(), nil, 1, 0, api.OK}, {ruleR(), slices.Repeat(bookB(), 6), 1, 40, api.OK}, {ruleR(), slices.Repeat(bookB(), 4), 1, 40, api.OK}, {rule(7, 0, 40, 1, 1), slices.Repeat(bookB(), 5), 1, 35, api.OK},
		// all dives are deep
		{rule(10, 0, 0, 60, 1), book(lesson(0, 0), dive(0, 0, 1)), 1, 0, api.ErrNone}, {rule(10, 0, 1, 60, 1), book(lesson(0, 0), dive(1, 0, 1)), 1, 0, api.OK}, {rule(10, 0, 1, 60, 1), book(lesson(0, 0), dive(1, 1, 1)), 1, 10, api.OK},
	} {
		if n, e := rescue.Deepest(x.r, x.book, x.day); e != x.e || n != x.want {
			t.Error(i, n, e)
		}
	}
}

// P9.6
func TestWhen(t *testing.T) {
	deep := book(lesson(0, 0), lesson(0, 0), dive(15, 4, 5), dive(16, 5, 6))
	for i, x := range []struct {
		r           api.RescueRule
		book        []api.RescueEntry
		from, depth int
		want        int
		e           api.Errno
	}{
		{ruleR(), bookA(), 7, 20, 11, api.OK}, {ruleR(), bookA(), 0, 0, 0, api.OK}, {ruleR(), bookA(), 0, 20, 3, api.OK}, {ruleR(), bookA(), 5, 10, 5, api.OK}, {ruleR(), bookA(), 6, 10, 11, api.OK}, {ruleR(), bookA(), 30, 10, 30, api.OK}, {ruleR(), bookA(), 7, 21, 0, api.ErrNone}, {ruleR(), bookA(), 60, 20, 60, api.OK}, {ruleR(), deep, 6, 15, 9, api.OK}, {ruleR(), deep, 6, 14, 6, api.OK}, {ruleR(), bookB(), 0, 10, 1, api.OK}, {ruleR(), nil, 0, 1, 0, api.ErrNone}, {ruleR(), nil, 60, 0, 60, api.OK},
		// the last day of all
		{ruleR(), book(lesson(57, 59)), 0, 10, 60, api.OK}, {ruleR(), book(lesson(57, 60)), 0, 10, 0, api.ErrNone}, {ruleR(), book(pain(55, 55), test(56, 56)), 56, 0, 60, api.OK}, {ruleR(), book(pain(55, 56), test(56, 59)), 56, 0, 0, api.ErrNone}, {ruleR(), book(pain(0, 0)), 1, 0, 0, api.ErrNone}, {ruleR(), book(pain(0, 0)), 0, 0, 0, api.OK}, {rule(10, 60, 40, 1, 1), book(pain(0, 0), test(1, 4)), 1, 0, 60, api.OK}, {rule(10, 0, 0, 60, 1), book(dive(0, 0, 0)), 1, 0, 0, api.ErrNone}, {rule(10, 0, 0, 59, 1), book(dive(0, 0, 0)), 1, 0, 60, api.OK},
	} {
		if n, e := rescue.When(x.r, x.book, x.from, x.depth); e != x.e || n != x.want {
			t.Error(i, n, e)
		}
	}
}

// question is what can be asked of a book.
type question struct {
	rule       api.RescueRule
	book       []api.RescueEntry
	day, depth int
}

// wantError fails if something that is asked of a book has another error, or another result beside it.
func wantError(t *testing.T, q question, want api.Errno) {
	t.Helper()
	if w, e := rescue.Known(q.rule, q.book, q.day, q.depth); e != want || w != 0 {
		t.Error(q, w, e)
	}
	if y, e := rescue.Lacks(q.rule, q.book, q.day, q.depth); e != want || len(y) != 0 {
		t.Error(q, y, e)
	}
	if n, e := rescue.When(q.rule, q.book, q.day, q.depth); e != want || n != 0 {
		t.Error(q, n, e)
	}
	if n, e := rescue.Deepest(q.rule, q.book, q.day); e != want || n != 0 {
		t.Error(q, n, e)
	}
}

// P9.4, P9.5, P9.6
func TestBookErrors(t *testing.T) {
	check := func(q question, days []int) {
		t.Helper()
		wantError(t, q, api.ErrArg)
		if is, e := rescue.May(q.rule, q.book, days, q.day, q.depth); e != api.ErrArg || is {
			t.Error(q, days, is, e)
		}
	}
	for _, r := range badRules() {
		check(question{r, bookA(), 9, 10}, l(0, 1, 3, 5, 9))
		check(question{r, torn(), 9, 10}, l(5, 4))
		check(question{r, nil, 9, 0}, nil)
	}
	for _, b := range badBooks() {
		days := slices.Repeat(l(5), len(b))
		check(question{ruleR(), b, 9, 10}, days)
		if is, e := rescue.Fits(b, days); e != api.ErrArg || is {
			t.Error(b, is, e)
		}
	}
	for _, n := range badNumbers(0, api.RescueDays) {
		check(question{ruleR(), bookA(), n, 10}, l(0, 1, 3, 5, 9))
		check(question{ruleR(), torn(), n, 10}, l(5, 4))
		check(question{ruleR(), nil, n, 0}, nil)
	}
	for _, n := range badNumbers(0, api.RescueDepth) {
		q := question{ruleR(), bookA(), 9, n}
		if is, e := rescue.May(q.rule, q.book, l(0, 1, 3, 5, 9), q.day, q.depth); e != api.ErrArg || is {
			t.Error(q, is, e)
		}
		if w, e := rescue.Known(q.rule, torn(), q.day, q.depth); e != api.ErrArg || w != 0 {
			t.Error(q, w, e)
		}
		if y, e := rescue.Lacks(q.rule, torn(), q.day, q.depth); e != api.ErrArg || len(y) != 0 {
			t.Error(q, y, e)
		}
		if day, e := rescue.When(q.rule, torn(), q.day, q.depth); e != api.ErrArg || day != 0 {
			t.Error(q, day, e)
		}
	}
}

// P9.4: days that are none, or not one for each entry
func TestDaysErrors(t *testing.T) {
	bad := ll(nil, l(), l(0), l(0, 1, 3, 5), l(0, 1, 3, 5, 9, 9), slices.Repeat(l(9), 100))
	for _, n := range badNumbers(0, api.RescueDays) {
		bad = append(bad, l(n, 1, 3, 5, 9), l(0, n, 3, 5, 9), l(0, 1, 3, 5, n))
	}
	for _, days := range bad {
		if is, e := rescue.Fits(bookA(), days); e != api.ErrArg || is {
			t.Error(days, is, e)
		}
		if is, e := rescue.May(ruleR(), bookA(), days, 12, 20); e != api.ErrArg || is {
			t.Error(days, is, e)
		}
	}
	if is, e := rescue.Fits(nil, l(0)); e != api.ErrArg || is {
		t.Error(is, e)
	}
}

// P9.4, P9.5, P9.6: a book that is not possible
func TestImpossible(t *testing.T) {
	for _, b := range men(torn(), book(lesson(60, 60), lesson(57, 59)), book(lesson(3, 6), pain(3, 6), test(2, 2)), book(lesson(3, 6), lesson(3, 3), lesson(1, 4), lesson(1, 2)), append(open()[:5], lesson(13, 15))) {
		wantError(t, question{ruleR(), b, 9, 10}, api.ErrRule)
		wantError(t, question{ruleR(), b, 0, 0}, api.ErrRule)
		wantError(t, question{ruleR(), b, 60, 40}, api.ErrRule)
	}
}

// truths returns all truths of a book, by the definition.
func truths(b []api.RescueEntry) [][]int {
	var spans []api.Span
	for _, e := range b {
		spans = append(spans, e.Day)
	}
	var all [][]int
	lists(spans, func(days []int) {
		if slices.IsSorted(days) {
			all = append(all, slices.Clone(days))
		}
	})
	return all
}

// lacking returns what is lacking, in truth, by the definition.
func lacking(q question, days []int) []int {
	before := func(i int) bool { return days[i] < q.day }
	lessons, deep, rest, untested := 0, 0, false, false
	for i, e := range q.book {
		switch {
		case !before(i):
		case e.Kind == api.RescueLesson:
			lessons++
		case e.Kind == api.RescueDive && e.Depth >= q.rule.Deep && days[i]+q.rule.Window >= q.day:
			deep++
		case e.Kind == api.RescuePain:
			rest = rest || q.day-days[i] < q.rule.Rest
			is := false
			for k := range q.book {
				is = is || k > i && q.book[k].Kind == api.RescueTest && before(k) && days[k] > days[i]
			}
			untested = untested || !is
		}
	}
	var all []int
	for i, is := range []bool{lessons*q.rule.Step < q.depth, rest, untested, q.depth >= q.rule.Deep && deep >= q.rule.Run} {
		if is {
			all = append(all, i)
		}
	}
	return all
}

// answer returns what is known of a question, by the definition, with all truths of the book.
func answer(q question, all [][]int) word {
	may := 0
	var w word
	for _, days := range all {
		lacks := lacking(q, days)
		if len(lacks) == 0 {
			may++
		}
		w.lacks = append(w.lacks, lacks...)
	}
	slices.Sort(w.lacks)
	w.lacks = slices.Compact(w.lacks)
	switch may {
	case 0:
		w.known = api.RescueNever
	case len(all):
		w.known = api.RescueSurely
	default:
		w.known = api.RescueMay
	}
	return w
}

// P9.4: days are a truth just if they are so by the definition, and a man may dive just if nothing is lacking by it
func TestMayOfAny(t *testing.T) {
	r := source(5)
	met := map[any]int{}
	for range 20000 {
		q := question{anyRule(r), anyBook(r), 0, anyOf(r, 0, 30)}
		q.day = anyDay(r, q.book)
		var days []int
		for _, e := range q.book {
			days = append(days, anyOf(r, e.Day.Low, e.Day.High))
		}
		if r.Intn(2) == 0 {
			slices.Sort(days)
		}
		isTruth := slices.IsSorted(days)
		for i, e := range q.book {
			isTruth = isTruth && days[i] >= e.Day.Low && days[i] <= e.Day.High
		}
		if is, e := rescue.Fits(q.book, days); e != api.OK || is != isTruth {
			t.Fatal(q, days, is, e)
		}
		is, e := rescue.May(q.rule, q.book, days, q.day, q.depth)
		met[e]++
		if !isTruth {
			if e != api.ErrArg || is {
				t.Fatal(q, days, is, e)
			}
			continue
		}
		lacks := lacking(q, days)
		if e != api.OK || is != (len(lacks) == 0) {
			t.Fatal(q, days, is, e, lacks)
		}
		met[is]++
		for _, thing := range lacks {
			met[thing]++
		}
	}
	wantAll(t, met, any(true), any(false), any(0), any(1), any(2), any(3), any(api.OK), any(api.ErrArg))
}

// P9.4, P9.5, P0.9: with all truths
func TestKnownOfAny(t *testing.T) {
	r := source(6)
	met := map[any]int{}
	for i := range 12000 {
		q := question{anyRule(r), anyBook(r), 0, anyOf(r, 0, 30)}
		if i%100 == 0 {
			q.book = open()
		}
		q.day = anyDay(r, q.book)
		all := truths(q.book)
		w, e := rescue.Known(q.rule, q.book, q.day, q.depth)
		y, f := rescue.Lacks(q.rule, q.book, q.day, q.depth)
		met[e]++
		if len(all) == 0 {
			wantError(t, q, api.ErrRule)
			continue
		}
		want := answer(q, all)
		if e != api.OK || f != api.OK || w != want.known || !slices.Equal(y, want.lacks) || (w == api.RescueSurely) != (len(y) == 0) {
			t.Fatal(q, w, e, y, f, want)
		}
		met[w]++
		for _, thing := range y {
			met[[2]any{w, thing}]++
		}
	}
	wantAll(t, met, any(api.OK), any(api.ErrRule), any(api.RescueNever), any(api.RescueMay), any(api.RescueSurely))
	for thing := range 4 {
		wantAll(t, met, any([2]any{api.RescueNever, thing}), any([2]any{api.RescueMay, thing}))
	}
}

// P9.6: at all depths, and on all days
func TestDeepestAndWhenOfAny(t *testing.T) {
	r := source(7)
	met := map[any]int{}
	for range 400 {
		q := question{anyRule(r), anyPossible(r), 0, anyOf(r, 0, 30)}
		q.day = anyDay(r, q.book)
		all := truths(q.book)
		surely := func(day, depth int) bool {
			return answer(question{q.rule, q.book, day, depth}, all).known == api.RescueSurely
		}
		deepest, want := 0, api.ErrNone
		for depth := range api.RescueDepth + 1 {
			is := surely(q.day, depth)
			if is {
				deepest, want = depth, api.OK
			}
			if depth > 0 && is && !surely(q.day, depth-1) {
				t.Fatal(q, depth)
			}
		}
		if n, e := rescue.Deepest(q.rule, q.book, q.day); e != want || n != deepest {
			t.Fatal(q, n, e, deepest)
		}
		met[want]++
		met[deepest > 0 && deepest == q.rule.Deep-1]++
		first := q.day
		for first <= api.RescueDays && !surely(first, q.depth) {
			first++
		}
		n, e := rescue.When(q.rule, q.book, q.day, q.depth)
		if first <= api.RescueDays && (e != api.OK || n != first) || first > api.RescueDays && (e != api.ErrNone || n != 0) {
			t.Fatal(q, n, e, first)
		}
		met[[2]any{e, n > q.day}]++
	}
	wantAll(t, met, any(api.OK), any(api.ErrNone), any(true), any([2]any{api.OK, true}), any([2]any{api.OK, false}), any([2]any{api.ErrNone, false}))
}

// P9.9: days that are known better
func TestNarrowed(t *testing.T) {
	r := source(8)
	met := map[any]int{}
	for range 4000 {
		q := question{anyRule(r), anyPossible(r), 0, anyOf(r, 0, 20)}
		q.day = anyDay(r, q.book)
		better := slices.Clone(q.book)
		days := truths(q.book)
		truth := days[r.Intn(len(days))]
		for i := range better {
			s := &better[i].Day
			*s = sp(anyOf(r, s.Low, truth[i]), anyOf(r, truth[i], s.High))
		}
		w, e := rescue.Known(q.rule, q.book, q.day, q.depth)
		v, f := rescue.Known(q.rule, better, q.day, q.depth)
		if e != api.OK || f != api.OK || w != api.RescueMay && v != w {
			t.Fatal(q, better, w, e, v, f)
		}
		met[[2]api.RescueWord{w, v}]++
		deepest, e := rescue.Deepest(q.rule, q.book, q.day)
		deeper, f := rescue.Deepest(q.rule, better, q.day)
		if e == api.OK && (f != api.OK || deeper < deepest) {
			t.Fatal(q, better, deepest, deeper, f)
		}
		day, e := rescue.When(q.rule, q.book, q.day, q.depth)
		sooner, f := rescue.When(q.rule, better, q.day, q.depth)
		if e == api.OK && (f != api.OK || sooner > day) {
			t.Fatal(q, better, day, sooner, f)
		}
		if e == api.OK && sooner < day {
			met[true]++
		}
		if deeper > deepest {
			met[false]++
		}
	}
	const no, may, yes = api.RescueNever, api.RescueMay, api.RescueSurely
	wantAll(t, met, any(true), any(false))
	for _, pair := range [][2]api.RescueWord{{no, no}, {may, no}, {may, may}, {may, yes}, {yes, yes}} {
		wantAll(t, met, any(pair))
	}
}
