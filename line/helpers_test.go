package line_test

import (
	"math/rand"
	"reflect"
	"slices"
	"strconv"
	"strings"
	"testing"

	"bathyal/api"
)

// allKinds is the set of all misreadings.
const allKinds = api.LineLost + api.LineAdded + api.LineJoined + api.LineParted

func l(n ...int) []int { return n }

func words(w ...[]int) [][]int { return w }

func code(kinds int, signals ...[]int) api.LineCode {
	return api.LineCode{Kinds: kinds, Signals: signals}
}

// codeC and codeD return the codes c and d of the chapter.
func codeC() api.LineCode { return code(api.LineLost+api.LineAdded, l(1), l(3), l(2, 2)) }

func codeD() api.LineCode { return code(allKinds, l(1), l(3), l(2, 2)) }

// codeF returns a code that sets one misreading right.
func codeF() api.LineCode { return code(api.LineLost+api.LineAdded, l(1), l(1, 3)) }

// dutyE returns the duty e of the chapter.
func dutyE() api.LineDuty {
	return api.LineDuty{Next: words(l(0, 1, -1), l(1, -1, 0)), Acts: l(1, 2, 3)}
}

// unary returns a word as a text with an o for each pull, in which misreadings are changes of letters.
func unary(word []int) string {
	var groups []string
	for _, n := range word {
		groups = append(groups, strings.Repeat("o", n))
	}
	return strings.Join(groups, "-")
}

// groupsOf returns the word of such a text.
func groupsOf(text string) []int {
	var word []int
	for _, group := range strings.FieldsFunc(text, func(r rune) bool { return r == '-' }) {
		word = append(word, len(group))
	}
	return word
}

// tidy returns a text without groups that are gone.
func tidy(text string) string { return unary(groupsOf(text)) }

// misreadOnce returns all texts that one misreading makes of a text, by the definition.
func misreadOnce(text string, kinds int) []string {
	var all []string
	add := func(kind int, changed string) {
		if kinds&kind != 0 {
			all = append(all, changed)
		}
	}
	add(api.LineAdded, tidy("o-"+text))
	for i, letter := range text {
		before, behind := text[:i], text[i+1:]
		if letter == '-' {
			add(api.LineJoined, before+behind)
			add(api.LineAdded, before+"-o-"+behind)
			continue
		}
		add(api.LineLost, tidy(before+behind))
		add(api.LineAdded, before+"oo"+behind)
		if strings.HasPrefix(behind, "o") {
			add(api.LineParted, before+"o-"+behind)
		}
	}
	add(api.LineAdded, tidy(text+"-o"))
	return all
}

// ball returns how far all texts are from one that are at most so far from it, by the definition.
func ball(text string, kinds, faults int) map[string]int {
	far := map[string]int{text: 0}
	edge := []string{text}
	for n := range faults {
		var next []string
		for _, t := range edge {
			for _, changed := range misreadOnce(t, kinds) {
				if _, met := far[changed]; !met {
					far[changed] = n + 1
					next = append(next, changed)
				}
			}
		}
		edge = next
	}
	return far
}

// balls keeps what was found of words, as codes ask for the same ones again and again.
type balls map[string]map[string]int

// of returns how far all texts are from a word that are at most 3 far.
func (b balls) of(word []int, kinds int) map[string]int {
	key := unary(word) + strconv.Itoa(kinds)
	if b[key] == nil {
		b[key] = ball(unary(word), kinds, api.LineFaults)
	}
	return b[key]
}

// far returns how far a word is from another one, or 4 if it is farther than 3.
func (b balls) far(word, heard []int, kinds int) int {
	n, met := b.of(word, kinds)[unary(heard)]
	if !met {
		return api.LineFaults + 1
	}
	return n
}

// inOrder returns the words of texts in lexicographic order.
func inOrder(texts []string) [][]int {
	var all [][]int
	for _, t := range texts {
		all = append(all, groupsOf(t))
	}
	slices.SortFunc(all, slices.Compare[[]int])
	return all
}

// within returns the texts that are at most so far, in the order of words.
func within(far map[string]int, faults int) [][]int {
	var all []string
	for t, n := range far {
		if n <= faults {
			all = append(all, t)
		}
	}
	return inOrder(all)
}

// isHeard reports whether a word is one that is heard.
func isHeard(word []int) bool {
	many := func(n int) bool { return n > api.LineMany }
	return len(word) <= api.LineLong && !slices.ContainsFunc(word, many)
}

// source returns numbers that are the same in each run.
func source(seed int64) *rand.Rand { return rand.New(rand.NewSource(seed)) }

// anyWord returns a word of at most so many groups, each of at most so many pulls.
func anyWord(r *rand.Rand, groups, pulls int) []int {
	var word []int
	for range r.Intn(groups + 1) {
		word = append(word, 1+r.Intn(pulls))
	}
	return word
}

// anyCode returns a code of at most so many signals, each of at most so many groups and pulls of a group.
func anyCode(r *rand.Rand, signals, groups, pulls int) api.LineCode {
	c := api.LineCode{Kinds: r.Intn(allKinds + 1)}
	wanted := 2 + r.Intn(signals-1)
	for len(c.Signals) < wanted {
		w := anyWord(r, groups, pulls)
		if len(w) > 0 && !has(c.Signals, w) {
			c.Signals = append(c.Signals, w)
		}
	}
	return c
}

// has reports whether a word is among some words.
func has(words [][]int, word []int) bool {
	return slices.ContainsFunc(words, func(w []int) bool { return slices.Equal(w, word) })
}

// misread returns a word after some misreadings, or the word itself where there are none.
func misread(r *rand.Rand, word []int, kinds, faults int) []int {
	text := unary(word)
	for range faults {
		if all := misreadOnce(text, kinds); len(all) > 0 {
			text = all[r.Intn(len(all))]
		}
	}
	return groupsOf(text)
}

// badWords returns words that are not heard.
func badWords() [][]int {
	return words(l(0), l(-1), l(1, 0), l(0, 1), l(api.LineMany+1), l(1, api.LineMany+1), l(1, 1, 1, 1, 1, 1, 1), make([]int, 1000))
}

// badCodes returns codes that are not as defined.
func badCodes() []api.LineCode {
	return []api.LineCode{
		{}, code(-1, l(1), l(3)), code(allKinds+1, l(1), l(3)), code(3), code(3, l(1)),
		code(3, l(1), l(2), l(3), l(4), l(5), l(1, 1), l(1, 2)),
		code(3, nil, l(1)), code(3, l(1), nil), code(3, l(1), l(0)), code(3, l(1), l(-1)), code(3, l(1), l(1, 0)),
		code(3, l(api.LinePulls+1), l(1)), code(3, l(1), l(1, 1, api.LinePulls+1)), code(3, l(1), l(1, 1, 1, 1)),
		code(3, l(1), l(1)), code(3, l(1), l(1, 2), l(2), l(1, 2)),
	}
}

// equal compares values of any type; nil and empty lists are the same.
func equal(a, b any) bool {
	return same(reflect.ValueOf(a), reflect.ValueOf(b))
}

func same(x, y reflect.Value) bool {
	if x.Kind() != reflect.Slice || y.Kind() != reflect.Slice || x.Type() != y.Type() {
		return reflect.DeepEqual(x.Interface(), y.Interface())
	}
	if x.Len() != y.Len() {
		return false
	}
	for i := range x.Len() {
		if !same(x.Index(i), y.Index(i)) {
			return false
		}
	}
	return true
}

// wantAll fails if some kind of case was never met, so that a test does not pass for nothing.
func wantAll[K comparable](t *testing.T, met map[K]int, kinds ...K) {
	t.Helper()
	for _, kind := range kinds {
		if met[kind] < 5 {
			t.Errorf("only %d cases: %v", met[kind], kind)
		}
	}
}
