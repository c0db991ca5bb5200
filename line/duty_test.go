package line_test

import (
	"iter"
	"math"
	"math/rand"
	"slices"
	"testing"

	"bathyal/api"
	"bathyal/line"
)

// dutyWith returns the duty e with a change.
func dutyWith(change func(*api.LineDuty)) api.LineDuty {
	d := dutyE()
	change(&d)
	return d
}

// badDuties returns duties that are not as defined for the code c.
func badDuties() []api.LineDuty {
	all := []api.LineDuty{{}}
	for _, change := range []func(*api.LineDuty){
		func(d *api.LineDuty) { d.First = 2 },
		func(d *api.LineDuty) { d.First = -1 },
		func(d *api.LineDuty) { d.First = math.MaxInt },
		func(d *api.LineDuty) { d.Next = nil },
		func(d *api.LineDuty) { d.Next = slices.Repeat(d.Next, 3) },
		func(d *api.LineDuty) { d.Next[1] = nil },
		func(d *api.LineDuty) { d.Next[0] = l(0, 1) },
		func(d *api.LineDuty) { d.Next[1] = l(0, 1, 0, 1) },
		func(d *api.LineDuty) { d.Next[0][0] = 2 },
		func(d *api.LineDuty) { d.Next[1][2] = -2 },
		func(d *api.LineDuty) { d.Next[1][2] = math.MinInt },
		func(d *api.LineDuty) { d.Acts[0] = 4 },
		func(d *api.LineDuty) { d.Acts[2] = -1 },
		func(d *api.LineDuty) { d.Acts[2] = math.MinInt },
		func(d *api.LineDuty) { d.Acts = make([]int, api.LineActs+1) },
	} {
		all = append(all, dutyWith(change))
	}
	return all
}

// badLogs returns logs that are not as defined.
func badLogs() [][][]int {
	all := [][][]int{slices.Repeat(words(l(1)), api.LineLog+1), make([][]int, 1000)}
	for _, w := range badWords() {
		all = append(all, words(w), words(l(3), w), words(w, l(3)))
	}
	return all
}

// P3.7
func TestDuty(t *testing.T) {
	for i, d := range []api.LineDuty{
		dutyE(),
		dutyWith(func(d *api.LineDuty) { d.First = 1 }),
		dutyWith(func(d *api.LineDuty) { d.Acts = nil }),
		dutyWith(func(d *api.LineDuty) { d.Acts = l(0, 1, 2, 3, 3, 0) }),
		{Next: words(l(-1, -1, -1))},
		{Next: slices.Repeat(words(l(0, 4, -1)), api.LineStates), First: 4, Acts: l(31)},
	} {
		if e := line.Duty(codeC(), d); e != api.OK {
			t.Error(i, e)
		}
	}
	for i, d := range badDuties() {
		if e := line.Duty(codeC(), d); e != api.ErrArg {
			t.Error(i, e)
		}
	}
	for i, c := range badCodes() {
		// as many next states as the code has signals, so that the code alone is not as defined
		d := api.LineDuty{Next: [][]int{make([]int, len(c.Signals))}}
		if e := line.Duty(c, d); e != api.ErrArg {
			t.Error(i, e)
		}
	}
}

// P3.7
func TestStatesAndActs(t *testing.T) {
	for i, x := range []struct {
		log          [][]int
		faults       int
		states, acts []int
		e            api.Errno
	}{
		{words(l(3)), 1, l(1), l(1, 2), api.OK}, {words(l(3)), 2, l(0, 1), l(2), api.OK}, {nil, 0, l(0), l(0, 2), api.OK}, {nil, api.LineFaults, l(0), l(0, 2), api.OK},
		// no diver pulls the signal 2 at first
		{words(l(2, 2)), 0, nil, nil, api.ErrRule}, {words(l(2, 2)), 2, nil, nil, api.ErrRule}, {words(l(2, 2)), 3, l(0, 1), l(2), api.OK}, {words(l(3), l(3)), 0, nil, nil, api.ErrRule},
		{words(l(3), l(2, 2)), 0, l(0), l(0, 2), api.OK}, {words(l(3), l(2, 2), l(3)), 0, l(1), l(1, 2), api.OK}, {words(l(3), l(1), l(1), l(1), l(2, 2)), 0, l(0), l(0, 2), api.OK},
		// misreadings of all words count together
		{words(l(2), l(2)), 1, nil, nil, api.ErrRule}, {words(l(2), l(2)), 2, l(0, 1), l(2), api.OK}, {words(nil, l(1)), 0, nil, nil, api.ErrRule}, {words(nil, l(1)), 1, l(0), l(0, 2), api.OK},
		{words(l(9)), api.LineFaults, nil, nil, api.ErrRule},
		{words(l(3)), -1, nil, nil, api.ErrArg}, {words(l(3)), api.LineFaults + 1, nil, nil, api.ErrArg}, {words(l(3)), math.MaxInt, nil, nil, api.ErrArg}, {nil, math.MinInt, nil, nil, api.ErrArg},
	} {
		if got, e := line.States(codeC(), dutyE(), x.log, x.faults); e != x.e || !equal(got, x.states) {
			t.Error(i, got, e)
		}
		if got, e := line.Acts(codeC(), dutyE(), x.log, x.faults); e != x.e || !equal(got, x.acts) {
			t.Error(i, got, e)
		}
	}
	last := dutyWith(func(d *api.LineDuty) { d.First = 1 })
	if got, e := line.States(codeC(), last, words(l(2, 2)), 0); e != api.OK || !equal(got, l(0)) {
		t.Error(got, e)
	}
	if got, e := line.Acts(codeC(), last, nil, 0); e != api.OK || !equal(got, l(1, 2)) {
		t.Error(got, e)
	}
}

// P3.8
func TestMeans(t *testing.T) {
	for i, x := range []struct {
		log    [][]int
		want   []int
		faults int
		e      api.Errno
	}{
		{words(l(3), l(2, 2)), l(1, 2), 0, api.OK}, {words(l(2)), l(0), 1, api.OK}, {nil, nil, 0, api.OK}, {words(l(2, 2)), l(0), 3, api.OK},
		{words(l(3), l(3)), l(0, 1), 2, api.OK}, {words(l(3), l(1), l(3)), l(0, 0, 1), 2, api.OK},
		// the first word can be 0 or 1 by one misreading, but only after 1 comes 2
		{words(l(2), l(2, 2)), l(1, 2), 1, api.OK}, {words(l(2), l(2), l(2, 2)), l(0, 1, 2), 2, api.OK},
		{words(l(9)), nil, 0, api.ErrNone}, {words(l(1), l(1), l(1), l(1), l(9)), nil, 0, api.ErrNone}, {words(l(5), l(5)), nil, 0, api.ErrNone}, {words(l(2), l(2), l(2), l(2)), nil, 0, api.ErrNone}, {words(l(2), l(2), l(2)), l(0, 0, 0), 3, api.OK},
		{words(nil, nil, nil), l(0, 0, 0), 3, api.OK},
	} {
		if got, n, e := line.Means(codeC(), dutyE(), x.log); e != x.e || n != x.faults || !equal(got, x.want) {
			t.Error(i, got, n, e)
		}
	}
	stuck := dutyWith(func(d *api.LineDuty) { d.Next[0] = l(-1, -1, -1) })
	if got, n, e := line.Means(codeC(), stuck, words(l(1))); e != api.ErrNone || n != 0 || len(got) != 0 {
		t.Error(got, n, e)
	}
	if got, n, e := line.Means(codeC(), stuck, nil); e != api.OK || n != 0 || len(got) != 0 {
		t.Error(got, n, e)
	}
	if got, e := line.States(codeC(), stuck, words(l(1)), api.LineFaults); e != api.ErrRule || len(got) != 0 {
		t.Error(got, e)
	}
}

// P3.7, P3.8
func TestDutyErrors(t *testing.T) {
	check := func(c api.LineCode, d api.LineDuty, log [][]int) {
		t.Helper()
		if got, e := line.States(c, d, log, 1); e != api.ErrArg || len(got) != 0 {
			t.Error(c, d, log, got, e)
		}
		if got, e := line.Acts(c, d, log, 1); e != api.ErrArg || len(got) != 0 {
			t.Error(c, d, log, got, e)
		}
		if got, n, e := line.Means(c, d, log); e != api.ErrArg || n != 0 || len(got) != 0 {
			t.Error(c, d, log, got, n, e)
		}
	}
	for _, c := range badCodes() {
		check(c, dutyE(), nil)
	}
	for _, d := range badDuties() {
		check(codeC(), d, nil)
	}
	for _, log := range badLogs() {
		check(codeC(), dutyE(), log)
	}
}

// meaning is some signals, the state to which they lead, and how often they were misread.
type meaning struct {
	signals        []int
	state, misread int
}

// meanings yields all meanings of a log, in lexicographic order, by the definition.
func meanings(known balls, c api.LineCode, d api.LineDuty, log [][]int) iter.Seq[meaning] {
	return func(yield func(meaning) bool) {
		var fill func(m meaning) bool
		fill = func(m meaning) bool {
			n := len(m.signals)
			if n == len(log) {
				return yield(m)
			}
			for signal, next := range d.Next[m.state] {
				if next < 0 {
					continue
				}
				far := known.far(c.Signals[signal], log[n], c.Kinds)
				if !fill(meaning{append(slices.Clone(m.signals), signal), next, m.misread + far}) {
					return false
				}
			}
			return true
		}
		fill(meaning{state: d.First})
	}
}

// anyDuty returns a duty for a code.
func anyDuty(r *rand.Rand, c api.LineCode) api.LineDuty {
	states := 1 + r.Intn(api.LineStates)
	d := api.LineDuty{First: r.Intn(states)}
	for range states {
		var next []int
		for range c.Signals {
			next = append(next, r.Intn(states+2)-1)
		}
		for i, n := range next {
			if n == states {
				next[i] = -1
			}
		}
		d.Next = append(d.Next, next)
	}
	for range r.Intn(api.LineActs + 1) {
		d.Acts = append(d.Acts, r.Intn(1<<states)|r.Intn(1<<states))
	}
	return d
}

// pulled returns signals that a diver pulls, at most as many as a log has.
func pulled(r *rand.Rand, d api.LineDuty) (signals []int, state int) {
	state = d.First
	for range r.Intn(api.LineLog + 1) {
		signal := r.Intn(len(d.Next[state]))
		if d.Next[state][signal] < 0 {
			break
		}
		signals = append(signals, signal)
		state = d.Next[state][signal]
	}
	return signals, state
}

// P3.7, P3.8, P0.3: states, acts and the best meaning are those of all meanings, and whatever a diver meant, the diver is in one of the states
func TestDutyOfAny(t *testing.T) {
	r := source(9)
	met := map[string]int{}
	known := balls{}
	for range 1500 {
		c := anyCode(r, 4, 2, 4)
		d := anyDuty(r, c)
		signals, in := pulled(r, d)
		var log [][]int
		times := 0
		for _, signal := range signals {
			n := max(0, r.Intn(7)-3)
			log = append(log, misread(r, c.Signals[signal], c.Kinds, n))
			times += n
		}
		faults := r.Intn(api.LineFaults + 1)
		var states, acts, first []int
		best, meant := api.LineFaults+1, api.ErrNone
		for m := range meanings(known, c, d, log) {
			if m.misread <= faults && !slices.Contains(states, m.state) {
				states = append(states, m.state)
			}
			if m.misread < best {
				best, first, meant = m.misread, m.signals, api.OK
			}
		}
		slices.Sort(states)
		for act, allowed := range d.Acts {
			if !slices.ContainsFunc(states, func(s int) bool { return allowed>>s%2 == 0 }) {
				acts = append(acts, act)
			}
		}
		e := api.OK
		if len(states) == 0 {
			e, acts = api.ErrRule, nil
		}
		if got, f := line.States(c, d, log, faults); f != e || !equal(got, states) || times <= faults && !slices.Contains(got, in) {
			t.Fatal(c, d, log, faults, got, f, states, in)
		}
		if got, f := line.Acts(c, d, log, faults); f != e || !equal(got, acts) {
			t.Fatal(c, d, log, faults, got, f, acts)
		}
		if meant == api.ErrNone {
			best = 0
		}
		if got, n, f := line.Means(c, d, log); f != meant || n != best || !equal(got, first) {
			t.Fatal(c, d, log, got, n, f, first, best)
		}
		switch {
		case e != api.OK:
			met["none"]++
		case len(acts) > 0 && len(states) > 1:
			met["several, and an act"]++
		case len(states) > 1:
			met["several"]++
		default:
			met["one"]++
		}
		met[map[bool]string{true: "meant", false: "not meant"}[meant == api.OK]]++
	}
	wantAll(t, met, "none", "several, and an act", "several", "one", "meant", "not meant")
}
