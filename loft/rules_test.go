package loft_test

import (
	"math/rand"
	"slices"
	"testing"

	"bathyal/api"
	"bathyal/loft"
)

// results is the results of a call, of which the last one is its error.
type results []any

// given is arguments of all functions.
type given struct {
	rule            api.LoftRule
	sponge          api.LoftSponge
	reading         api.LoftReading
	pieces, packing []int
	weighings       []api.LoftWeighing
	search          api.LoftSearch
	set, limit      int
	items           []api.LoftString
	text            string
}

// functions is how many functions the chapter lists.
const functions = 17

// asked returns the results of all functions.
func asked(g given) []results {
	var all []results
	add := func(r ...any) { all = append(all, r) }
	add(loft.Check(g.rule))
	grade, e := loft.Grade(g.rule, g.sponge)
	add(grade, e)
	grades, e := loft.Could(g.rule, g.reading)
	add(grades, e)
	grades, e = loft.Writes(g.rule, g.sponge)
	add(grades, e)
	grades, e = loft.Others(g.rule, g.reading)
	add(grades, e)
	look, n, e := loft.Look(g.rule, g.reading)
	add(look, n, e)
	n, e = loft.Worth(g.rule, g.sponge, g.pieces)
	add(n, e)
	pieces, n, e := loft.Clip(g.rule, g.sponge)
	add(pieces, n, e)
	span, e := loft.Dry(g.weighings)
	add(span, e)
	is, e := loft.Fits(g.search, g.set)
	add(is, e)
	words, e := loft.Sandy(g.search)
	add(words, e)
	sample, n, e := loft.Sample(g.search)
	add(sample, n, e)
	is, e = loft.Packs(g.items, g.limit, g.packing)
	add(is, e)
	spans, e := loft.Weigh(g.items, g.packing)
	add(spans, e)
	packing, n, e := loft.Pack(g.items, g.limit)
	add(packing, n, e)
	text, e := loft.Print(g.items, g.packing)
	add(text, e)
	items, packing, e := loft.Read(g.text)
	add(items, packing, e)
	return all
}

// isZero reports whether a result is what it is together with an error.
func isZero(result any) bool {
	switch x := result.(type) {
	case bool:
		return !x
	case int:
		return x == 0
	case string:
		return x == ""
	case api.Span:
		return x == api.Span{}
	case api.LoftLook:
		return x == 0
	case []int:
		return len(x) == 0
	case []api.Span:
		return len(x) == 0
	case []api.LoftWord:
		return len(x) == 0
	case []api.LoftString:
		return len(x) == 0
	}
	return false
}

// wild returns a number, or one that is out of all ranges.
func wild(r *rand.Rand, n int) int {
	all := l(least, least+1, -256, -2, -1, 0, 1, 4, 7, 16, 32, 41, 64, 91, 10001, 50001, 1<<31, 1<<32+1, most-1, most)
	if r.Intn(60) > 0 {
		return n
	}
	return all[r.Intn(len(all))]
}

func wildSpan(r *rand.Rand, s api.Span) api.Span { return sp(wild(r, s.Low), wild(r, s.High)) }

// wildList returns a list with some numbers that are out of all ranges, or with one number more or less.
func wildList(r *rand.Rand, list []int) []int {
	var all []int
	for _, n := range list {
		all = append(all, wild(r, n))
	}
	switch r.Intn(20) {
	case 0:
		all = append(all, r.Intn(4))
	case 1:
		all = all[:len(all)/2]
	}
	return all
}

// wildLength returns a list, or a longer or a shorter one.
func wildLength[T any](r *rand.Rand, list []T) []T {
	switch r.Intn(30) {
	case 0:
		return nil
	case 1:
		return slices.Repeat(list, 9)
	}
	return list
}

// wildRule returns a rule, be it as defined or not.
func wildRule(r *rand.Rand, x api.LoftRule) api.LoftRule {
	for i, g := range x.Grades {
		x.Grades[i] = api.LoftGrade{Forms: wild(r, g.Forms), Pore: wildSpan(r, g.Pore), Size: wildSpan(r, g.Size), Price: wild(r, g.Price)}
	}
	return api.LoftRule{Grades: wildLength(r, x.Grades), Pore: wild(r, x.Pore), Size: wild(r, x.Size), Kerf: wild(r, x.Kerf)}
}

// wildSearch returns a search, be it as defined or not.
func wildSearch(r *rand.Rand) api.LoftSearch {
	s := anySearch(r)
	for i := range s.Samples {
		s.Samples[i].Set = wild(r, s.Samples[i].Set)
	}
	return search(wild(r, s.Strings), wild(r, s.Most), wildLength(r, s.Samples)...)
}

// anything returns arguments, be they as defined or not.
func anything(r *rand.Rand) given {
	rule, x := anyRead(r)
	s := anySponge(r)
	g := given{
		rule: wildRule(r, rule), reading: reading(wild(r, x.Forms), wild(r, x.Pore), wild(r, x.Size)),
		sponge: sponge(wild(r, s.Form), wild(r, s.Pore), wild(r, s.Size)), pieces: wildList(r, l(r.Intn(20), r.Intn(5))),
		search: wildSearch(r), set: wild(r, r.Intn(4)), limit: wild(r, anyOf(r, 1, 200)),
	}
	for _, w := range anyWeighings(r) {
		wet := wildSpan(r, w.Wet)
		g.weighings = append(g.weighings, weighing(wild(r, w.Weight), wet.Low, wet.High, wild(r, w.Off)))
	}
	g.weighings = wildLength(r, g.weighings)
	for _, s := range anyItems(r, r.Intn(api.LoftItems+1)) {
		g.items = append(g.items, api.LoftString{Grade: wild(r, s.Grade), Weight: wildSpan(r, s.Weight)})
	}
	g.packing = wildList(r, anyPacking(r, len(g.items)))
	g.items = wildLength(r, g.items)
	g.text = checked("loft 1\nstring " + string([]byte{byte(47 + r.Intn(12))}) + " 5 7 0\n")
	return g
}

// P0.1, R2, R8: for all arguments, the functions end and do not panic, say the same again, and nothing but an error where there is one
func TestAnyValue(t *testing.T) {
	r := source(20)
	met := map[any]int{}
	for range 3000 {
		g := anything(r)
		a := asked(g)
		if b := asked(g); !equal(a, b) {
			t.Fatal(g, a, b)
		}
		for i, result := range a {
			last := len(result) - 1
			met[result[last]]++
			if result[last] != api.OK && slices.ContainsFunc(result[:last], func(x any) bool { return !isZero(x) }) {
				t.Fatal(g, i, result)
			}
			if result[last] == api.OK {
				met[i]++
			}
		}
	}
	wantAll(t, met, any(api.OK), any(api.ErrArg), any(api.ErrText), any(api.ErrNone), any(api.ErrRule))
	for i := range functions {
		wantAll(t, met, any(i))
	}
}

// R3: nil and empty lists are the same
func TestNilAndEmpty(t *testing.T) {
	a := roomy()
	a.rule.Grades, a.pieces, a.weighings, a.search.Samples, a.items, a.packing = nil, nil, nil, nil, nil, nil
	b := roomy()
	b.rule.Grades, b.pieces, b.weighings, b.search.Samples, b.items, b.packing = []api.LoftGrade{}, l(), []api.LoftWeighing{}, []api.LoftSample{}, []api.LoftString{}, l()
	if v, w := asked(a), asked(b); !equal(v, w) {
		t.Error(v, w)
	}
}

// fill returns a list that has room for more, which is filled with copies of the first thing.
func fill[T any](list []T) []T {
	all := slices.Concat(list, slices.Repeat(list[:1], 4))
	return all[:len(list)]
}

// roomy returns arguments of lists that have room for more, for which all functions have results.
func roomy() given {
	rule := ruleR()
	rule.Grades = fill(rule.Grades)
	return given{
		rule: rule, sponge: sponge(0, 5, 40), reading: reading(1, 5, 21), pieces: fill(l(20, 10, 5)),
		weighings: fill([]api.LoftWeighing{weighing(1000, 10, 12, 0), weighing(990, 9, 10, 5)}),
		search:    search(4, 2, fill([]api.LoftSample{yes(3), no(4)})...), set: 1, limit: 70,
		items: fill(itemsL()), packing: fill(l(0, 0, 1, 2)), text: textL,
	}
}

// room returns all lists of arguments with what is behind their ends.
func room(g given) []any {
	longer := func(list []int) []int { return list[:len(list)+4] }
	grades, samples := g.rule.Grades, g.search.Samples
	return []any{grades[:len(grades)+4], longer(g.pieces), g.weighings[:len(g.weighings)+4], samples[:len(samples)+4], g.items[:len(g.items)+4], longer(g.packing)}
}

// R4: no argument is changed, also beyond the end of a list
func TestArguments(t *testing.T) {
	g := roomy()
	for i, r := range asked(g) {
		if e := r[len(r)-1]; e != api.OK {
			t.Error(i, r)
		}
	}
	if !equal(room(g), room(roomy())) {
		t.Error(g)
	}
}

// R4: lists of a result share no memory with each other, with those of another call, nor with arguments
func TestResults(t *testing.T) {
	g := roomy()
	var all [][]int
	for range 2 {
		for _, r := range asked(g) {
			for _, x := range r {
				switch x := x.(type) {
				case []int:
					all = append(all, x)
				case []api.Span:
					x[0] = sp(99, 99)
				case []api.LoftWord:
					x[0] = 99
				case []api.LoftString:
					x[0] = item(99, 99, 99)
				}
			}
		}
	}
	if len(all) != 2*6 {
		t.Error(len(all))
	}
	for i := range all {
		all[i] = append(all[i], 99)
	}
	for i := range all {
		for k := range all[i] {
			all[i][k] = i
		}
	}
	for i := range all {
		if slices.ContainsFunc(all[i], func(n int) bool { return n != i }) {
			t.Error(all)
		}
	}
	if !equal(room(g), room(roomy())) || !equal(asked(g), asked(roomy())) {
		t.Error(g)
	}
}
