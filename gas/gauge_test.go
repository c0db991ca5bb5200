package gas_test

import (
	"math"
	"slices"
	"testing"

	"bathyal/api"
	"bathyal/gas"
)

func sounding(read, low, high, off int) api.GasSounding {
	return api.GasSounding{Read: read, Stretch: sp(low, high), Off: off}
}

// P2.1
func TestCheck(t *testing.T) {
	part := api.GasPart{Limit: api.GasLimit, Slope: api.GasSlope}
	for i, x := range []api.GasTable{
		tableT(), shut(),
		{Parts: []api.GasPart{{}}},
		{Parts: []api.GasPart{part, {}, part}, Stops: l(1, 2, 3, api.GasDepth)},
		{Parts: []api.GasPart{part}, Stops: l(api.GasDepth)},
	} {
		if e := gas.Check(x); e != api.OK {
			t.Error(i, e)
		}
	}
	for i, x := range badTables() {
		if e := gas.Check(x); e != api.ErrArg {
			t.Error(i, e)
		}
	}
}

// P2.1
func TestDepth(t *testing.T) {
	type soundings = []api.GasSounding
	for i, x := range []struct {
		l    soundings
		want api.Span
		e    api.Errno
	}{
		{soundings{sounding(10, 0, 10, 1), sounding(9, 5, 20, 0)}, sp(9, 10), api.OK},
		{soundings{sounding(9, 5, 20, 0), sounding(10, 0, 10, 1)}, sp(9, 10), api.OK},
		{soundings{sounding(0, 0, 20, 0)}, one(0), api.OK},
		// not less than 0, and not more than the line reads
		{soundings{sounding(2, 0, 0, 3)}, sp(0, 5), api.OK},
		// deeper than a dive can be
		{soundings{sounding(api.GasDepth, api.GasStretch, api.GasStretch, api.GasOff)}, sp(45, 51), api.OK},
		// 7.7 and 11.99 are rounded down
		{soundings{sounding(7, 10, 10, 0)}, one(7), api.OK},
		{soundings{sounding(11, 9, 9, 0)}, one(11), api.OK},
		{soundings{sounding(10, 0, 0, 1), sounding(12, 0, 0, 1)}, one(11), api.OK},
		{soundings{sounding(10, 0, 0, 1), sounding(12, 0, 0, 0)}, api.Span{}, api.ErrRule},
		// each two of these agree, or only the last one does not
		{soundings{sounding(10, 0, 0, 3), sounding(12, 0, 0, 3), sounding(14, 0, 0, 3), sounding(16, 0, 0, 3)}, one(13), api.OK},
		{soundings{sounding(10, 0, 0, 3), sounding(12, 0, 0, 3), sounding(14, 0, 0, 3), sounding(17, 0, 0, 3)}, api.Span{}, api.ErrRule},
		{nil, api.Span{}, api.ErrArg},
		{slices.Repeat(soundings{sounding(1, 0, 0, 0)}, api.GasSoundings), one(1), api.OK},
		{slices.Repeat(soundings{sounding(1, 0, 0, 0)}, api.GasSoundings+1), api.Span{}, api.ErrArg},
		{soundings{sounding(-1, 0, 0, 0)}, api.Span{}, api.ErrArg},
		{soundings{sounding(api.GasDepth+1, 0, 0, 0)}, api.Span{}, api.ErrArg},
		{soundings{sounding(4, -1, 0, 0)}, api.Span{}, api.ErrArg},
		{soundings{sounding(4, 0, api.GasStretch+1, 0)}, api.Span{}, api.ErrArg},
		{soundings{sounding(4, 2, 1, 0)}, api.Span{}, api.ErrArg},
		{soundings{sounding(4, 0, 0, -1)}, api.Span{}, api.ErrArg},
		{soundings{sounding(4, 0, 0, api.GasOff+1)}, api.Span{}, api.ErrArg},
		// what is wrong in two ways
		{soundings{sounding(10, 0, 0, 0), sounding(12, 0, 0, 0), sounding(4, 0, 0, -1)}, api.Span{}, api.ErrArg},
	} {
		if got, e := gas.Depth(x.l); e != x.e || got != x.want {
			t.Error(i, got, e)
		}
	}
}

// P2.1: whatever is true, the depth lies within its bounds, and each end is so in some truth
func TestDepthIsTrue(t *testing.T) {
	r := source(1)
	met := map[string]int{}
	for range 3000 {
		var list []api.GasSounding
		open := map[int]int{}
		read := r.Intn(api.GasDepth + 1)
		for range 1 + r.Intn(api.GasSoundings) {
			s := api.GasSounding{Read: min(api.GasDepth, max(0, read+r.Intn(7)-3)), Stretch: span(r, 0, api.GasStretch, api.GasStretch), Off: r.Intn(api.GasOff + 1)}
			list = append(list, s)
			depths := map[int]bool{}
			for stretch := s.Stretch.Low; stretch <= s.Stretch.High; stretch++ {
				for off := -s.Off; off <= s.Off; off++ {
					depths[max(0, s.Read*(100+stretch)/100+off)] = true
				}
			}
			for depth := range depths {
				open[depth]++
			}
		}
		want, e := sp(math.MaxInt, -1), api.OK
		for depth, n := range open {
			if n == len(list) {
				want = sp(min(want.Low, depth), max(want.High, depth))
			}
		}
		kind := "open"
		if want.High < 0 {
			want, e, kind = api.Span{}, api.ErrRule, "nothing open"
		}
		met[kind]++
		if got, f := gas.Depth(list); f != e || got != want {
			t.Fatal(list, got, f, want)
		}
	}
	wantAll(t, met, "open", "nothing open")
}

// P2.1
func TestMinutes(t *testing.T) {
	const longest = api.GasGlass*api.GasTurns + api.GasGlass
	for i, x := range []struct {
		turns              int
		glass, watch, want api.Span
		e                  api.Errno
	}{
		{3, sp(4, 5), sp(10, 16), sp(12, 16), api.OK},
		// less than one run
		{0, sp(5, 6), sp(0, longest), sp(0, 5), api.OK},
		{0, one(1), sp(0, longest), one(0), api.OK},
		{0, one(1), sp(1, longest), api.Span{}, api.ErrRule},
		// the last run has not come to its end
		{3, sp(4, 5), sp(19, 30), one(19), api.OK},
		{3, sp(4, 5), sp(20, 30), api.Span{}, api.ErrRule},
		{3, sp(4, 5), sp(0, 12), one(12), api.OK},
		{3, sp(4, 5), sp(0, 11), api.Span{}, api.ErrRule},
		{api.GasTurns, one(api.GasGlass), sp(0, longest), sp(longest-60, longest-1), api.OK},
		{api.GasTurns, one(api.GasGlass), one(longest), api.Span{}, api.ErrRule},
		{api.GasTurns + 1, one(api.GasGlass), sp(0, longest), api.Span{}, api.ErrArg},
		{-1, one(api.GasGlass), sp(0, longest), api.Span{}, api.ErrArg},
		{1, sp(0, 5), sp(0, 9), api.Span{}, api.ErrArg},
		{1, sp(5, api.GasGlass+1), sp(0, 9), api.Span{}, api.ErrArg},
		{1, sp(6, 5), sp(0, 9), api.Span{}, api.ErrArg},
		{1, sp(5, 6), sp(-1, 9), api.Span{}, api.ErrArg},
		{1, sp(5, 6), sp(0, longest+1), api.Span{}, api.ErrArg},
		{1, sp(5, 6), sp(9, 8), api.Span{}, api.ErrArg},
		// what is wrong in two ways
		{3, sp(4, 5), sp(20, longest+1), api.Span{}, api.ErrArg},
	} {
		if got, e := gas.Minutes(api.GasClock{Turns: x.turns, Glass: x.glass, Watch: x.watch}); e != x.e || got != x.want {
			t.Error(i, got, e)
		}
	}
}

// P2.1: whatever is true, the time lies within its bounds, and each end is so in some truth
func TestMinutesAreTrue(t *testing.T) {
	r := source(2)
	met := map[string]int{}
	for range 2000 {
		c := api.GasClock{Turns: r.Intn(6), Glass: span(r, 1, 9, 8), Watch: span(r, 0, 60, 30)}
		begun := map[int]bool{0: true}
		for range c.Turns {
			next := map[int]bool{}
			for time := range begun {
				for run := c.Glass.Low; run <= c.Glass.High; run++ {
					next[time+run] = true
				}
			}
			begun = next
		}
		want, e := sp(math.MaxInt, -1), api.OK
		for time := range begun {
			for run := range c.Glass.High {
				if all := time + run; c.Watch.Low <= all && all <= c.Watch.High {
					want = sp(min(want.Low, all), max(want.High, all))
				}
			}
		}
		kind := "open"
		if want.High < 0 {
			want, e, kind = api.Span{}, api.ErrRule, "nothing open"
		}
		met[kind]++
		if got, f := gas.Minutes(c); f != e || got != want {
			t.Fatal(c, got, f, want)
		}
	}
	wantAll(t, met, "open", "nothing open")
}
