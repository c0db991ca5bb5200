package loft_test

import (
	"slices"
	"testing"

	"bathyal/api"
	"bathyal/loft"
)

const never, may, surely = api.LoftNever, api.LoftMay, api.LoftSurely

func words(w ...api.LoftWord) []api.LoftWord { return w }

// P6.5
func TestFits(t *testing.T) {
	for i, x := range []struct {
		search api.LoftSearch
		set    int
		want   bool
		e      api.Errno
	}{
		{search(4, 1, yes(3)), 1, true, api.OK}, {search(4, 1, yes(3)), 2, true, api.OK}, {search(4, 1, yes(3)), 3, false, api.OK}, {search(4, 1, yes(3)), 4, false, api.OK}, {search(4, 1, yes(3)), 0, false, api.OK}, {search(4, 2, yes(3)), 3, true, api.OK}, {search(4, 2, yes(3)), 5, true, api.OK}, {search(4, 2, yes(3)), 7, false, api.OK}, {search(4, 2, yes(3)), 12, false, api.OK},
		{search(4, 0), 0, true, api.OK}, {search(4, 0), 8, false, api.OK}, {search(5, 2), 24, true, api.OK}, {search(5, 2), 31, false, api.OK}, {search(1, 2), 1, true, api.OK}, {search(4, 2, no(8)), 8, false, api.OK}, {search(4, 2, no(8)), 7, false, api.OK}, {search(4, 2, no(8)), 6, true, api.OK}, {search(4, 2, no(8)), 0, true, api.OK},
		// no set is possible
		{search(3, 0, yes(1)), 1, false, api.OK}, {search(3, 2, yes(1), no(3)), 1, false, api.OK},
		{search(4, 1), 16, false, api.ErrArg}, {search(4, 1), -1, false, api.ErrArg}, {search(4, 1), most, false, api.ErrArg}, {search(4, 1), least, false, api.ErrArg}, {search(4, 1), 1 << 32, false, api.ErrArg}, {search(1, 1), 2, false, api.ErrArg}, {search(5, 1), 32, false, api.ErrArg}, {search(3, 0, yes(1)), 8, false, api.ErrArg},
	} {
		if is, e := loft.Fits(x.search, x.set); e != x.e || is != x.want {
			t.Error(i, is, e)
		}
	}
	for i, s := range badSearches() {
		for _, set := range l(0, 1) {
			if is, e := loft.Fits(s, set); e != api.ErrArg || is {
				t.Error(i, s, is, e)
			}
		}
		if w, e := loft.Sandy(s); e != api.ErrArg || len(w) != 0 {
			t.Error(i, s, w, e)
		}
		if sample, n, e := loft.Sample(s); e != api.ErrArg || sample != 0 || n != 0 {
			t.Error(i, s, sample, n, e)
		}
	}
}

// P6.5, P6.6
func TestSandy(t *testing.T) {
	for i, x := range []struct {
		search api.LoftSearch
		words  []api.LoftWord
		sample int
		needed int
		e      api.Errno
	}{
		{search(4, 1), words(may, may, may, may), 1, 3, api.OK}, {search(4, 1, yes(3)), words(may, may, never, never), 1, 1, api.OK}, {search(4, 1, no(3)), words(never, never, may, may), 4, 2, api.OK}, {search(3, 2), words(may, may, may), 1, 3, api.OK}, {search(5, 2), words(may, may, may, may, may), 1, 5, api.OK}, {search(1, 1), words(may), 1, 1, api.OK}, {search(1, 2), words(may), 1, 1, api.OK}, {search(2, 2), words(may, may), 1, 2, api.OK}, {search(5, 1), words(may, may, may, may, may), 3, 3, api.OK}, {search(3, 1), words(may, may, may), 3, 2, api.OK},
		// one of 0 and 1, and one of 1 and 2: the string 1, or both of the others, or 1 and one more
		{search(3, 2, yes(3), yes(6)), words(may, may, may), 1, 2, api.OK}, {search(3, 2, yes(3), no(2)), words(surely, never, may), 4, 1, api.OK},
		// a search is over
		{search(3, 1, yes(1)), words(surely, never, never), 0, 0, api.ErrNone}, {search(2, 0), words(never, never), 0, 0, api.ErrNone}, {search(2, 2, no(3)), words(never, never), 0, 0, api.ErrNone}, {search(1, 2, yes(1)), words(surely), 0, 0, api.ErrNone}, {search(4, 2, yes(1), yes(8)), words(surely, never, never, surely), 0, 0, api.ErrNone}, {search(5, 2, no(1), no(2), no(4), no(8), yes(16), yes(31)), words(never, never, never, never, surely), 0, 0, api.ErrNone},
		// as many samples as there can be, and the search is not over
		{search(5, 2, slices.Repeat([]api.LoftSample{no(15)}, 6)...), words(never, never, never, never, may), 16, 1, api.OK},
		// no set is possible
		{search(3, 0, yes(1)), nil, 0, 0, api.ErrRule}, {search(3, 2, yes(1), no(3)), nil, 0, 0, api.ErrRule}, {search(3, 1, yes(1), yes(2)), nil, 0, 0, api.ErrRule}, {search(4, 2, yes(1), yes(2), yes(4)), nil, 0, 0, api.ErrRule}, {search(2, 2, yes(1), no(1)), nil, 0, 0, api.ErrRule},
	} {
		want := x.e
		if want == api.ErrNone {
			want = api.OK
		}
		if w, e := loft.Sandy(x.search); e != want || !equal(w, x.words) {
			t.Error(i, w, e)
		}
		if sample, n, e := loft.Sample(x.search); e != x.e || sample != x.sample || n != x.needed {
			t.Error(i, sample, n, e)
		}
	}
}

// sandOf returns what a sample of a set shows, by the definition.
func sandOf(set, truth int) bool { return common(set, truth) > 0 }

// possible returns all sets that can be true, by the definition.
func possible(s api.LoftSearch) []int {
	var all []int
	for set := range 1 << s.Strings {
		is := common(set, set) <= s.Most
		for _, sample := range s.Samples {
			is = is && sandOf(sample.Set, set) == sample.Sand
		}
		if is {
			all = append(all, set)
		}
	}
	return all
}

// P6.5: whatever is true, what is said of a string holds, and where nothing is, both can be
func TestSandyOfAny(t *testing.T) {
	r := source(10)
	met := map[any]int{}
	for range 4000 {
		s := anySearch(r)
		all := possible(s)
		for set := range 1 << s.Strings {
			if is, e := loft.Fits(s, set); e != api.OK || is != slices.Contains(all, set) {
				t.Fatal(s, set, is, e)
			}
		}
		got, e := loft.Sandy(s)
		if len(all) == 0 {
			if e != api.ErrRule || len(got) != 0 {
				t.Fatal(s, got, e)
			}
			met["none"]++
			continue
		}
		var want []api.LoftWord
		for number := range s.Strings {
			is := slices.ContainsFunc(all, func(set int) bool { return contains(set, number) })
			not := slices.ContainsFunc(all, func(set int) bool { return !contains(set, number) })
			word := never
			if is && not {
				word = may
			} else if is {
				word = surely
			}
			want = append(want, word)
			met[word]++
		}
		if e != api.OK || !equal(got, want) {
			t.Fatal(s, got, e, want)
		}
	}
	wantAll(t, met, any("none"), any(never), any(may), any(surely))
}

// shownBy returns those of some sets that a sample shows sand of, or no sand.
func shownBy(sets []int, sample int, sand bool) []int {
	var all []int
	for _, set := range sets {
		if sandOf(sample, set) == sand {
			all = append(all, set)
		}
	}
	return all
}

// suffice reports whether so many samples suffice to tell sets apart, whatever they show.
func suffice(strings int, sets []int, samples int) bool {
	if len(sets) <= 1 {
		return true
	}
	if len(sets) > 1<<samples {
		return false
	}
	for sample := range 1 << strings {
		if suffice(strings, shownBy(sets, sample, true), samples-1) && suffice(strings, shownBy(sets, sample, false), samples-1) {
			return true
		}
	}
	return false
}

// bestSample returns the best sample, and how many samples are needed, by the definition.
func bestSample(strings int, sets []int) (sample, needed int) {
	for !suffice(strings, sets, needed) {
		needed++
	}
	for sample = 1; sample < 1<<strings; sample++ {
		if suffice(strings, shownBy(sets, sample, true), needed-1) && suffice(strings, shownBy(sets, sample, false), needed-1) {
			return sample, needed
		}
	}
	return 0, needed
}

// checkSample compares the best sample with the definition, and returns how many samples are needed, or -1 if no set is possible.
func checkSample(t *testing.T, s api.LoftSearch) int {
	t.Helper()
	all := possible(s)
	sample, n, e := loft.Sample(s)
	switch len(all) {
	case 0:
		if e != api.ErrRule || sample != 0 || n != 0 {
			t.Fatal(s, sample, n, e)
		}
		return -1
	case 1:
		if e != api.ErrNone || sample != 0 || n != 0 {
			t.Fatal(s, sample, n, e)
		}
		return 0
	}
	want, needed := bestSample(s.Strings, all)
	if e != api.OK || sample != want || n != needed || len(all) > 1<<n {
		t.Fatal(s, sample, n, e, want, needed)
	}
	return n
}

// P6.6, P0.6: the sample is the first one with which the fewest samples are needed
func TestSampleOfAny(t *testing.T) {
	r := source(11)
	met := map[int]int{}
	for range 1500 {
		met[checkSample(t, anySearch(r))]++
	}
	for strings := 1; strings <= api.LoftStrings; strings++ {
		for most := range api.LoftSandy + 1 {
			checkSample(t, search(strings, most))
			for set := 1; set < 1<<strings; set++ {
				for _, sand := range []bool{true, false} {
					met[checkSample(t, search(strings, most, api.LoftSample{Set: set, Sand: sand}))]++
				}
			}
		}
	}
	wantAll(t, met, -1, 0, 1, 2, 3, 4)
}

// P6.6, P0.6: whatever is true, who takes the best samples knows it after as many as are told; each time one less is needed, or still fewer
func TestSampleToTheEnd(t *testing.T) {
	for strings := 1; strings <= api.LoftStrings; strings++ {
		for most := range api.LoftSandy + 1 {
			for _, truth := range possible(search(strings, most)) {
				s := search(strings, most)
				needed := api.LoftSamples
				for {
					sample, n, e := loft.Sample(s)
					if e == api.ErrNone {
						break
					}
					if e != api.OK || n >= needed && len(s.Samples) > 0 {
						t.Fatal(s, truth, sample, n, e)
					}
					needed = n
					s.Samples = append(s.Samples, api.LoftSample{Set: sample, Sand: sandOf(sample, truth)})
				}
				if is, e := loft.Fits(s, truth); e != api.OK || !is || len(possible(s)) != 1 {
					t.Fatal(s, truth, is, e)
				}
			}
		}
	}
}

// P6.9: a sample more, and a lesser Most, never make what is known of a string less, nor more samples needed
func TestMoreIsKnown(t *testing.T) {
	r := source(12)
	met := map[string]int{}
	for range 4000 {
		s := anySearch(r)
		more := api.LoftSearch{Strings: s.Strings, Most: r.Intn(s.Most + 1), Samples: slices.Clone(s.Samples)}
		if len(s.Samples) < api.LoftSamples && r.Intn(2) == 0 {
			more.Samples = append(more.Samples, api.LoftSample{Set: anyOf(r, 1, 1<<s.Strings-1), Sand: r.Intn(2) == 0})
		}
		is, e := loft.Sandy(more)
		if e == api.ErrRule {
			continue
		}
		was, f := loft.Sandy(s)
		if e != api.OK || f != api.OK {
			t.Fatal(s, more, e, f)
		}
		for number, word := range was {
			if word != may && is[number] != word {
				t.Fatal(s, more, was, is)
			}
			if word != is[number] {
				met["known"]++
			}
		}
		_, n, _ := loft.Sample(s)
		_, fewer, _ := loft.Sample(more)
		if fewer > n {
			t.Fatal(s, more, n, fewer)
		}
		if fewer < n {
			met["fewer"]++
		}
	}
	wantAll(t, met, "known", "fewer")
}
