package line_test

import (
	"math"
	"math/rand"
	"slices"
	"testing"

	"bathyal/api"
	"bathyal/line"
)

// P3.10: more kinds, and more misreadings, never make fewer signals be meant, nor fewer states possible, nor more acts safe, nor fewer ends of a talk
func TestConsequences(t *testing.T) {
	r := source(12)
	met := map[string]int{}
	more := func(what string, was, now []int) {
		t.Helper()
		for _, n := range was {
			if !slices.Contains(now, n) {
				t.Fatal(what, was, now)
			}
		}
		if len(now) > len(was) {
			met[what]++
		}
	}
	for range 2000 {
		c, faults := anyCode(r, 4, 2, 4), r.Intn(api.LineFaults+1)
		wide, many := code(c.Kinds|r.Intn(allKinds+1), c.Signals...), faults+r.Intn(api.LineFaults+1-faults)
		d := anyDuty(r, c)
		signals, _ := pulled(r, d)
		var log [][]int
		for _, signal := range signals {
			log = append(log, misread(r, c.Signals[signal], c.Kinds, max(0, r.Intn(5)-3)))
		}
		heard := misread(r, c.Signals[0], c.Kinds, r.Intn(4))
		was, e := line.Meant(c, heard, faults)
		now, f := line.Meant(wide, heard, many)
		if e != api.OK || f != api.OK {
			t.Fatal(e, f)
		}
		more("meant", was, now)
		was, e = line.States(c, d, log, faults)
		now, f = line.States(wide, d, log, many)
		if e == api.OK && f != api.OK {
			t.Fatal(c, d, log, faults, wide, many, e, f)
		}
		more("states", was, now)
		if e == api.OK {
			was, _ = line.Acts(c, d, log, faults)
			now, _ = line.Acts(wide, d, log, many)
			more("acts", now, was)
		}
		rounds := 1 + r.Intn(api.LineRounds)
		were, e := line.Ends(c, 1, rounds, faults)
		are, f := line.Ends(wide, 1, rounds, many)
		if e != api.OK || f != api.OK {
			t.Fatal(e, f)
		}
		more("ends", numbered(were), numbered(are))
	}
	wantAll(t, met, "meant", "states", "acts", "ends")
}

// numbered returns a number for each end.
func numbered(ends []api.LineEnd) []int {
	var all []int
	for _, e := range ends {
		n := 2 * e.Act
		if e.Done {
			n++
		}
		all = append(all, n)
	}
	return all
}

// results is the results of a call, of which the last one is its error.
type results []any

// given is arguments of all functions.
type given struct {
	code           api.LineCode
	duty           api.LineDuty
	log            [][]int
	word           []int
	signal, number int
	faults         int
	right          bool
	text           string
}

// asked returns the results of all functions.
func asked(g given) []results {
	var all []results
	add := func(r ...any) { all = append(all, r) }
	heard, e := line.Hear(g.word, g.code.Kinds, g.faults)
	add(heard, e)
	for _, w := range g.log {
		far, e := line.Far(g.word, w, g.code.Kinds)
		add(far, e)
	}
	add(line.Check(g.code))
	meant, e := line.Meant(g.code, g.word, g.faults)
	add(meant, e)
	is, e := line.Notices(g.code, g.faults)
	add(is, e)
	is, e = line.Rights(g.code, g.faults)
	add(is, e)
	a, b, shared, e := line.Clash(g.code, g.faults)
	add(a, b, shared, e)
	built, e := line.Build(g.number, g.code.Kinds, g.right)
	add(built.Kinds, built.Signals, e)
	ends, e := line.Ends(g.code, g.signal, g.number, g.faults)
	add(ends, e)
	end, n, e := line.Play(g.code, g.signal, g.number, g.log)
	add(end, n, e)
	n, signal, e := line.Weak(g.code, g.number)
	add(n, signal, e)
	add(line.Duty(g.code, g.duty))
	states, e := line.States(g.code, g.duty, g.log, g.faults)
	add(states, e)
	acts, e := line.Acts(g.code, g.duty, g.log, g.faults)
	add(acts, e)
	meaning, n, e := line.Means(g.code, g.duty, g.log)
	add(meaning, n, e)
	text, e := line.Print(g.log)
	add(text, e)
	log, e := line.Read(g.text)
	add(log, e)
	return all
}

// isZero reports whether a result is what it is together with an error.
func isZero(result any) bool {
	switch x := result.(type) {
	case bool:
		return !x
	case int:
		return x == 0
	case string:
		return x == ""
	case []int:
		return len(x) == 0
	case [][]int:
		return len(x) == 0
	case []api.LineEnd:
		return len(x) == 0
	}
	return result == api.LineEnd{}
}

// anyInt returns a number, be it in range or not.
func anyInt(r *rand.Rand) int {
	all := l(math.MinInt, math.MinInt+1, -256, -2, -1, 0, 6, 7, 15, 16, 18, 19, 255, 256, 257, 1<<31, 1<<32+1, math.MaxInt-1, math.MaxInt)
	if r.Intn(25) > 0 {
		return 1 + r.Intn(4)
	}
	return all[r.Intn(len(all))]
}

// anyList returns a list of at most so many numbers, be they in range or not.
func anyList(r *rand.Rand, long int) []int {
	var all []int
	for range r.Intn(long + 1) {
		all = append(all, anyInt(r))
	}
	return all
}

// anything returns arguments, be they as defined or not.
func anything(r *rand.Rand) given {
	g := given{word: anyList(r, 4), signal: anyInt(r) - 1, number: anyInt(r), faults: anyInt(r) - 1, right: r.Intn(2) == 0}
	g.code.Kinds = anyInt(r)
	for range 1 + r.Intn(4) {
		g.code.Signals = append(g.code.Signals, append(l(anyInt(r)), anyList(r, 2)...))
	}
	g.duty.First = anyInt(r) - 1
	for range r.Intn(4) {
		var next []int
		for range g.code.Signals {
			next = append(next, anyInt(r)-2)
		}
		g.duty.Next = append(g.duty.Next, next)
	}
	g.duty.Acts = anyList(r, 3)
	for range r.Intn(4) {
		g.log = append(g.log, anyList(r, 4))
	}
	g.text = checked("log 1\n" + string([]byte{byte(r.Intn(256)), byte(40 + r.Intn(20)), byte('0' + r.Intn(10))}) + "\n")
	return g
}

// P0.1, R2, R8: for all arguments, the functions end and do not panic, say the same again, and nothing but an error where there is one
func TestAnyValue(t *testing.T) {
	r := source(13)
	errors := map[any]int{}
	for range 4000 {
		g := anything(r)
		a := asked(g)
		if b := asked(g); !equal(a, b) {
			t.Fatal(g, a, b)
		}
		for i, result := range a {
			last := len(result) - 1
			errors[result[last]]++
			if result[last] != api.OK && slices.ContainsFunc(result[:last], func(x any) bool { return !isZero(x) }) {
				t.Fatal(g, i, result)
			}
		}
	}
	wantAll(t, errors, any(api.OK), any(api.ErrArg), any(api.ErrText), any(api.ErrNone), any(api.ErrRule))
}

// R3: nil and empty lists are the same
func TestNilAndEmpty(t *testing.T) {
	a := given{code: codeC(), duty: dutyE(), log: words(nil, nil), signal: 1, number: 1, faults: 1}
	b := a
	a.duty.Acts, b.duty.Acts = nil, []int{}
	b.log, b.word = words([]int{}, []int{}), []int{}
	if v, w := asked(a), asked(b); !equal(v, w) {
		t.Error(v, w)
	}
	a.log, b.log = nil, [][]int{}
	if v, w := asked(a), asked(b); !equal(v, w) {
		t.Error(v, w)
	}
	a.code.Signals, b.code.Signals = nil, [][]int{}
	a.duty.Next, b.duty.Next = nil, [][]int{}
	if v, w := asked(a), asked(b); !equal(v, w) {
		t.Error(v, w)
	}
	a.code, b.code = code(3, nil, l(1)), code(3, []int{}, l(1))
	if v, w := asked(a), asked(b); !equal(v, w) {
		t.Error(v, w)
	}
}

// roomy returns arguments of lists that have room for more, which is filled with 9.
func roomy() given {
	g := given{code: codeC(), duty: dutyE(), log: words(l(2), l(1), l(3), l(3)), word: l(2, 1), signal: 1, number: 2, faults: 1, text: textX}
	g.duty.Next[1] = l(1, 1, 0) // so that what is heard in a talk of two rounds is a log with a meaning, too
	fill := func(list []int) []int {
		all := slices.Concat(list, l(9, 9, 9, 9))
		return all[:len(list)]
	}
	for _, lists := range [][][]int{g.code.Signals, g.duty.Next, g.log} {
		for i := range lists {
			lists[i] = fill(lists[i])
		}
	}
	g.duty.Acts, g.word = fill(g.duty.Acts), fill(g.word)
	return g
}

// room returns all lists of arguments with what is behind their ends.
func room(g given) [][]int {
	var all [][]int
	for _, list := range slices.Concat(g.code.Signals, g.duty.Next, g.log, words(g.duty.Acts, g.word)) {
		all = append(all, list[:len(list)+4])
	}
	return all
}

// R4: no argument is changed, also beyond the end of a list
func TestArguments(t *testing.T) {
	g := roomy()
	for _, r := range asked(g) {
		if e := r[len(r)-1]; e != api.OK {
			t.Error(r)
		}
	}
	if !equal(room(g), room(roomy())) {
		t.Error(g)
	}
}

// R4: lists of a result share no memory with each other, nor with arguments
func TestResults(t *testing.T) {
	g := roomy()
	heard, _ := line.Hear(g.word, allKinds, 2)
	built, _ := line.Build(api.LineBuilt, 0, true)
	read, _ := line.Read(textX)
	for _, list := range [][][]int{heard, built.Signals, read} {
		for i := range list {
			list[i] = append(list[i], 99)
		}
		for i := range list {
			for k := range list[i] {
				list[i][k] = i
			}
		}
		for i := range list {
			if slices.ContainsFunc(list[i], func(n int) bool { return n != i }) {
				t.Error(list)
			}
		}
	}
	again, _ := line.Build(api.LineBuilt, 0, true)
	if !equal(again.Signals, words(l(1), l(1, 1), l(1, 2), l(2), l(2, 1))) {
		t.Error(again)
	}
	meaning, _, _ := line.Means(g.code, g.duty, g.log)
	acts, _ := line.Acts(g.code, g.duty, g.log, 3)
	states, _ := line.States(g.code, g.duty, g.log, 3)
	_, _, clash, _ := line.Clash(g.code, 1)
	for _, list := range [][]int{meaning, acts, states, clash} {
		for i := range list {
			list[i] = 99
		}
	}
	if !equal(room(g), room(roomy())) {
		t.Error(g)
	}
}
