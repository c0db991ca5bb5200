package line_test

import (
	"math"
	"slices"
	"testing"

	"bathyal/api"
	"bathyal/line"
)

// P3.4
func TestBuild(t *testing.T) {
	for i, x := range []struct {
		signals, kinds int
		right          bool
		want           [][]int
		e              api.Errno
	}{
		{2, 3, false, words(l(1), l(1, 2)), api.OK}, {2, 3, true, words(l(1), l(1, 3)), api.OK}, {3, 3, false, words(l(1), l(1, 2), l(2, 1)), api.OK},
		{2, 0, false, words(l(1), l(1, 1)), api.OK}, {2, 0, true, words(l(1), l(1, 1)), api.OK}, {api.LineBuilt, 0, true, words(l(1), l(1, 1), l(1, 2), l(2), l(2, 1)), api.OK},
		// neither 1 and 3 nor 2 and 1 1 have fewer pulls than 1 and 1 2, which come first
		{2, api.LineLost, false, words(l(1), l(1, 2)), api.OK},
		// there are not so many
		{api.LineBuilt, 3, true, nil, api.ErrNone}, {api.LineBuilt, allKinds, true, nil, api.ErrNone},
		{1, 3, false, nil, api.ErrArg}, {0, 3, false, nil, api.ErrArg}, {-1, 3, false, nil, api.ErrArg}, {api.LineBuilt + 1, 3, false, nil, api.ErrArg}, {math.MaxInt, 3, true, nil, api.ErrArg},
		{2, -1, true, nil, api.ErrArg}, {2, allKinds + 1, false, nil, api.ErrArg}, {2, math.MinInt, false, nil, api.ErrArg},
	} {
		c, e := line.Build(x.signals, x.kinds, x.right)
		if e != x.e || !equal(c.Signals, x.want) || e == api.OK && c.Kinds != x.kinds || e != api.OK && c.Kinds != 0 {
			t.Error(i, c, e)
		}
	}
}

// total returns the pulls of all signals.
func total(signals [][]int) int {
	n := 0
	for _, w := range signals {
		for _, pulls := range w {
			n += pulls
		}
	}
	return n
}

// bestCode returns the signals with the fewest pulls, and of several the first ones, two of which always suit each other, of all lists in order.
func bestCode(all [][]int, signals int, suits func(a, b []int) bool) [][]int {
	var best [][]int
	var fill func(chosen [][]int, rest [][]int)
	fill = func(chosen [][]int, rest [][]int) {
		if len(chosen) == signals {
			if best == nil || total(chosen) < total(best) {
				best = slices.Clone(chosen)
			}
			return
		}
		for i, w := range rest {
			if !slices.ContainsFunc(chosen, func(v []int) bool { return !suits(v, w) }) {
				fill(append(chosen, w), rest[i+1:])
			}
		}
	}
	fill(nil, all)
	return best
}

// P3.4, P0.3: all codes that are built do what they are built for, and no others have fewer pulls, nor as many and come before
func TestBuildIsBest(t *testing.T) {
	all := everyWord(2, 4)
	slices.SortFunc(all, slices.Compare[[]int])
	all = slices.CompactFunc(all, slices.Equal[[]int])[1:]
	if len(all) != 20 {
		t.Fatal(all)
	}
	known := balls{}
	for kinds := range allKinds + 1 {
		for _, right := range []bool{false, true} {
			suits := func(a, b []int) bool {
				c := code(kinds, a, b)
				_, _, _, e := clashes(known, c, 1)
				return right && e == api.ErrNone || !right && !mistaken(known, c, 1)
			}
			pairs := map[string]bool{}
			for _, a := range all {
				for _, b := range all {
					pairs[unary(a)+" "+unary(b)] = suits(a, b)
				}
			}
			for signals := 2; signals <= api.LineBuilt; signals++ {
				want := bestCode(all, signals, func(a, b []int) bool { return pairs[unary(a)+" "+unary(b)] })
				e := api.OK
				if want == nil {
					e = api.ErrNone
				}
				c, f := line.Build(signals, kinds, right)
				if f != e || !equal(c.Signals, want) {
					t.Fatal(signals, kinds, right, c, f, want)
				}
				does := line.Notices
				if right {
					does = line.Rights
				}
				if is, f := does(c, 1); e == api.OK && (f != api.OK || !is) {
					t.Fatal(c, right, is, f)
				}
			}
		}
	}
}
