package loft_test

import (
	"math/rand"
	"reflect"
	"slices"
	"testing"

	"bathyal/api"
)

const most, least = 1<<63 - 1, -1 << 63

func sp(low, high int) api.Span { return api.Span{Low: low, High: high} }

func just(n int) api.Span { return sp(n, n) }

func l(n ...int) []int { return n }

// ruleR returns the rule r of the chapter.
func ruleR() api.LoftRule {
	return api.LoftRule{
		Grades: []api.LoftGrade{{Forms: 3, Pore: sp(0, 10), Size: sp(20, 40), Price: 100}, {Forms: 3, Pore: sp(0, 20), Size: sp(10, 40), Price: 40}, {Forms: 15, Pore: sp(0, 40), Size: sp(5, 40), Price: 10}},
		Pore:   2, Size: 3, Kerf: 1,
	}
}

// with returns the rule r with something changed.
func with(change func(*api.LoftRule)) api.LoftRule {
	r := ruleR()
	change(&r)
	return r
}

func sponge(form, pore, size int) api.LoftSponge {
	return api.LoftSponge{Form: form, Pore: pore, Size: size}
}

func reading(forms, pore, size int) api.LoftReading {
	return api.LoftReading{Forms: forms, Pore: pore, Size: size}
}

func weighing(weight, low, high, off int) api.LoftWeighing {
	return api.LoftWeighing{Weight: weight, Wet: sp(low, high), Off: off}
}

func search(strings, most int, samples ...api.LoftSample) api.LoftSearch {
	return api.LoftSearch{Strings: strings, Most: most, Samples: samples}
}

func yes(set int) api.LoftSample { return api.LoftSample{Set: set, Sand: true} }

func no(set int) api.LoftSample { return api.LoftSample{Set: set} }

// item returns a string.
func item(grade, low, high int) api.LoftString {
	return api.LoftString{Grade: grade, Weight: sp(low, high)}
}

// itemsL returns the strings l of the chapter.
func itemsL() []api.LoftString {
	return []api.LoftString{item(0, 30, 40), item(0, 20, 30), item(0, 50, 60), item(1, 10, 20)}
}

// badNumbers returns numbers that are not from low to high.
func badNumbers(low, high int) []int { return l(low-1, high+1, least, most) }

// badSpans returns spans that are not as defined, if they have to lie from low to high.
func badSpans(low, high int) []api.Span {
	return []api.Span{sp(low-1, high), sp(low, high+1), sp(high, low), sp(low+1, low), just(low - 1), just(high + 1), sp(least, most), sp(most, least)}
}

// badForms returns numbers that are no sets of forms.
func badForms() []int { return l(0, 16, 17, 1<<32+1, -1, least, least+1, most) }

// badRules returns rules that are not as defined.
func badRules() []api.LoftRule {
	bad := []api.LoftRule{{}}
	add := func(change func(*api.LoftRule)) { bad = append(bad, with(change)) }
	add(func(r *api.LoftRule) { r.Grades = nil })
	add(func(r *api.LoftRule) { r.Grades = []api.LoftGrade{} })
	add(func(r *api.LoftRule) { r.Grades = slices.Repeat(r.Grades, 2) })
	for grade := range 3 {
		for _, n := range badForms() {
			add(func(r *api.LoftRule) { r.Grades[grade].Forms = n })
		}
		for _, s := range badSpans(0, api.LoftPore) {
			add(func(r *api.LoftRule) { r.Grades[grade].Pore = s })
		}
		for _, s := range badSpans(0, api.LoftSize) {
			add(func(r *api.LoftRule) { r.Grades[grade].Size = s })
		}
		for _, n := range badNumbers(0, api.LoftPrice) {
			add(func(r *api.LoftRule) { r.Grades[grade].Price = n })
		}
	}
	for _, n := range badNumbers(0, api.LoftError) {
		add(func(r *api.LoftRule) { r.Pore = n })
		add(func(r *api.LoftRule) { r.Size = n })
	}
	for _, n := range badNumbers(0, api.LoftKerf) {
		add(func(r *api.LoftRule) { r.Kerf = n })
	}
	return bad
}

// badSponges returns sponges that are not as defined.
func badSponges() []api.LoftSponge {
	var bad []api.LoftSponge
	for _, n := range badNumbers(0, api.LoftForms-1) {
		bad = append(bad, sponge(n, 5, 30))
	}
	for _, n := range badNumbers(0, api.LoftPore) {
		bad = append(bad, sponge(0, n, 30))
	}
	for _, n := range badNumbers(0, api.LoftSize) {
		bad = append(bad, sponge(0, 5, n))
	}
	return bad
}

// badReadings returns readings that are not as defined.
func badReadings() []api.LoftReading {
	var bad []api.LoftReading
	for _, n := range badForms() {
		bad = append(bad, reading(n, 5, 30))
	}
	for _, n := range badNumbers(0, api.LoftPore) {
		bad = append(bad, reading(1, n, 30))
	}
	for _, n := range badNumbers(0, api.LoftSize) {
		bad = append(bad, reading(1, 5, n))
	}
	return bad
}

// badSearches returns searches that are not as defined.
func badSearches() []api.LoftSearch {
	bad := []api.LoftSearch{search(4, 1, slices.Repeat([]api.LoftSample{no(1)}, api.LoftSamples+1)...)}
	for _, n := range badNumbers(1, api.LoftStrings) {
		bad = append(bad, search(n, 1), search(n, 1, no(1)))
	}
	for _, n := range badNumbers(0, api.LoftSandy) {
		bad = append(bad, search(4, n))
	}
	for _, n := range l(0, 16, 17, 32, 1<<32+1, -1, least, least+1, most) {
		bad = append(bad, search(4, 1, no(n)), search(4, 1, yes(3), yes(n)), search(4, 0, yes(1), no(n)))
	}
	return append(bad, search(1, 1, no(2)), search(1, 1, yes(3)), search(5, 1, yes(32)))
}

// badItems returns lists of strings that are not as defined.
func badItems() [][]api.LoftString {
	bad := [][]api.LoftString{make([]api.LoftString, api.LoftItems+1), make([]api.LoftString, 100)}
	add := func(at int, s api.LoftString) {
		items := itemsL()
		items[at] = s
		bad = append(bad, items)
	}
	for at := range 4 {
		for _, n := range badNumbers(0, api.LoftMany-1) {
			add(at, item(n, 10, 20))
		}
		for _, s := range badSpans(0, api.LoftWeight) {
			add(at, api.LoftString{Weight: s})
		}
	}
	return bad
}

// badPackings returns lists that are no packings of four strings.
func badPackings() [][]int {
	return [][]int{nil, l(0), l(0, 0, 0), l(0, 0, 0, 0, 0), l(1, 0, 0, 0), l(1, 1, 1, 1), l(0, 2, 1, 0), l(0, 2, 2, 2), l(0, 0, 2, 1), l(0, 1, 3, 2), l(0, 1, 0, 3), l(0, 1, 2, 4), l(-1, 0, 0, 0), l(0, -1, 0, 0), l(0, 1, 2, -1), l(0, 0, 0, most), l(0, 0, least, 0), l(most, 0, 0, 0), l(0, 1<<32, 0, 0)}
}

// source returns numbers that are the same in each run.
func source(seed int64) *rand.Rand { return rand.New(rand.NewSource(seed)) }

// anyOf returns a number from low to high.
func anyOf(r *rand.Rand, low, high int) int { return low + r.Intn(high-low+1) }

// anySpan returns a span that lies from 0 to high.
func anySpan(r *rand.Rand, high int) api.Span {
	a, b := anyOf(r, 0, high), anyOf(r, 0, high)
	if r.Intn(3) == 0 {
		b = min(a+r.Intn(5), high)
	}
	return sp(min(a, b), max(a, b))
}

// anyForms returns a set of forms.
func anyForms(r *rand.Rand) int { return anyOf(r, 1, 1<<api.LoftForms-1) }

// anyRule returns a rule.
func anyRule(r *rand.Rand) api.LoftRule {
	x := api.LoftRule{Pore: anyOf(r, 0, api.LoftError), Size: anyOf(r, 0, api.LoftError), Kerf: anyOf(r, 0, api.LoftKerf)}
	for range anyOf(r, 1, api.LoftMany) {
		price := anyOf(r, 0, 5)
		if r.Intn(2) == 0 {
			price = anyOf(r, 0, api.LoftPrice)
		}
		x.Grades = append(x.Grades, api.LoftGrade{Forms: anyForms(r), Pore: anySpan(r, api.LoftPore), Size: anySpan(r, api.LoftSize), Price: price})
	}
	return x
}

// anySponge returns a sponge.
func anySponge(r *rand.Rand) api.LoftSponge {
	return sponge(r.Intn(api.LoftForms), anyOf(r, 0, api.LoftPore), anyOf(r, 0, api.LoftSize))
}

// anyReading returns a reading.
func anyReading(r *rand.Rand) api.LoftReading {
	x := reading(anyForms(r), anyOf(r, 0, api.LoftPore), anyOf(r, 0, api.LoftSize))
	if r.Intn(2) == 0 {
		x.Forms = 1 << r.Intn(api.LoftForms)
	}
	return x
}

// near returns a span of a few numbers from 0 to high that begins near a number.
func near(r *rand.Rand, n, high int) api.Span {
	low := min(max(n+anyOf(r, -5, 3), 0), high)
	return sp(low, min(low+r.Intn(6), high))
}

// anyRead returns a rule with a reading, mostly one near which the grades have their bounds.
func anyRead(r *rand.Rand) (api.LoftRule, api.LoftReading) {
	rule, x := anyRule(r), anyReading(r)
	if r.Intn(4) > 0 {
		for i := range rule.Grades {
			g := &rule.Grades[i]
			g.Forms |= x.Forms & anyForms(r)
			g.Pore, g.Size = near(r, x.Pore, api.LoftPore), near(r, x.Size, api.LoftSize)
		}
	}
	return rule, x
}

// anySearch returns a search, in which the samples show what a set of strings makes them show, be it a possible one or not.
func anySearch(r *rand.Rand) api.LoftSearch {
	s := search(anyOf(r, 1, api.LoftStrings), anyOf(r, 0, api.LoftSandy))
	truth := 0
	for range r.Intn(4) {
		truth |= 1 << r.Intn(s.Strings)
	}
	for range max(0, anyOf(r, -4, api.LoftSamples)) {
		set := anyOf(r, 1, 1<<s.Strings-1)
		s.Samples = append(s.Samples, api.LoftSample{Set: set, Sand: common(set, truth) > 0})
	}
	return s
}

// anyItems returns so many strings, of a few grades, and mostly of small weights.
func anyItems(r *rand.Rand, many int) []api.LoftString {
	grades, weight := anyOf(r, 1, 3), 20
	if r.Intn(4) == 0 {
		grades, weight = api.LoftMany, api.LoftWeight
	}
	var items []api.LoftString
	for range many {
		items = append(items, api.LoftString{Grade: r.Intn(grades), Weight: anySpan(r, weight)})
	}
	return items
}

// anyPacking returns a packing of so many strings.
func anyPacking(r *rand.Rand, many int) []int {
	var packing []int
	bales := 0
	for range many {
		bale := anyOf(r, 0, bales)
		bales = max(bales, bale+1)
		packing = append(packing, bale)
	}
	return packing
}

// contains reports whether a set has a number.
func contains(set, number int) bool { return set/(1<<number)%2 == 1 }

// common returns how many numbers belong to both of two sets of strings.
func common(a, b int) int {
	both := 0
	for number := range api.LoftStrings {
		if contains(a, number) && contains(b, number) {
			both++
		}
	}
	return both
}

// inSpan reports whether a number lies in a span.
func inSpan(n int, s api.Span) bool { return n >= s.Low && n <= s.High }

// gradeOf returns the grade of a sponge, by the definition.
func gradeOf(r api.LoftRule, s api.LoftSponge) int {
	for i, g := range r.Grades {
		if contains(g.Forms, s.Form) && inSpan(s.Pore, g.Pore) && inSpan(s.Size, g.Size) {
			return i
		}
	}
	return -1
}

// canBeRead reports whether a sponge can be read so, by the definition.
func canBeRead(r api.LoftRule, s api.LoftSponge, x api.LoftReading) bool {
	return contains(x.Forms, s.Form) && max(s.Pore-x.Pore, x.Pore-s.Pore) <= r.Pore && max(s.Size-x.Size, x.Size-s.Size) <= r.Size
}

// canBe returns all sponges that can be read so.
func canBe(r api.LoftRule, x api.LoftReading) []api.LoftSponge {
	var all []api.LoftSponge
	for form := range api.LoftForms {
		for pore := range api.LoftPore + 1 {
			for size := range api.LoftSize + 1 {
				if s := sponge(form, pore, size); canBeRead(r, s, x) {
					all = append(all, s)
				}
			}
		}
	}
	return all
}

// readings returns all readings, with the form as it is, with which a sponge can be read.
func readings(r api.LoftRule, s api.LoftSponge) []api.LoftReading {
	var all []api.LoftReading
	for pore := range api.LoftPore + 1 {
		for size := range api.LoftSize + 1 {
			if x := reading(1<<s.Form, pore, size); canBeRead(r, s, x) {
				all = append(all, x)
			}
		}
	}
	return all
}

// sorted returns the numbers of a list in increasing order, each of them once.
func sorted(list []int) []int {
	slices.Sort(list)
	return slices.Compact(list)
}

// equal compares values of any type; nil and empty lists are the same.
func equal(a, b any) bool {
	return same(reflect.ValueOf(a), reflect.ValueOf(b))
}

func same(x, y reflect.Value) bool {
	if x.Type() != y.Type() {
		return false
	}
	switch x.Kind() {
	case reflect.Slice:
		if x.Len() != y.Len() {
			return false
		}
		for i := range x.Len() {
			if !same(reflect.ValueOf(x.Index(i).Interface()), reflect.ValueOf(y.Index(i).Interface())) {
				return false
			}
		}
		return true
	case reflect.Struct:
		for i := range x.NumField() {
			if !same(x.Field(i), y.Field(i)) {
				return false
			}
		}
		return true
	}
	return reflect.DeepEqual(x.Interface(), y.Interface())
}

// wantAll fails if some kind of case was never met, so that a test does not pass for nothing.
func wantAll[K comparable](t *testing.T, met map[K]int, kinds ...K) {
	t.Helper()
	for _, kind := range kinds {
		if met[kind] < 5 {
			t.Errorf("only %d cases: %v", met[kind], kind)
		}
	}
}
