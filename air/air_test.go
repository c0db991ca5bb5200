package air_test

import (
	"slices"
	"testing"

	"bathyal/air"
	"bathyal/api"
)

// P4.1
func TestCheck(t *testing.T) {
	for i, b := range []api.AirBoat{
		boatB(), boatC(),
		// all numbers at their ends
		{Pumps: []api.AirPump{{Stroke: just(1), Feeds: 1}}, Crews: []api.AirCrew{{Men: 1, Strokes: just(1), Tire: 1}}, Hoses: []api.AirHose{{}}, Divers: []api.AirDiver{{Breath: just(1)}}},
		{
			Pumps:  slices.Repeat([]api.AirPump{{Stroke: sp(1, api.AirStroke), Feeds: api.AirDivers}}, api.AirPumps),
			Crews:  slices.Repeat([]api.AirCrew{{Men: api.AirMen, Strokes: sp(1, api.AirStrokes), Tire: api.AirWatches, Rest: api.AirWatches}}, api.AirCrews),
			Hoses:  slices.Repeat([]api.AirHose{{Loss: sp(0, api.AirLoss), Long: api.AirDepth}}, api.AirHoses),
			Divers: slices.Repeat([]api.AirDiver{{Breath: sp(1, api.AirBreath), Depth: sp(0, api.AirDepth), Up: api.AirMinutes, Reserve: api.AirReserve}}, api.AirDivers),
			Change: api.AirMinutes,
		},
		// more divers than hoses
		with(func(b *api.AirBoat) { b.Hoses = b.Hoses[:1] }),
	} {
		if e := air.Check(b); e != api.OK {
			t.Error(i, e)
		}
	}
	for i, b := range badBoats() {
		if e := air.Check(b); e != api.ErrArg {
			t.Error(i, e)
		}
	}
}

// P4.1
func TestNeedAndLasts(t *testing.T) {
	diver := func(d api.AirDiver) api.AirBoat { return with(func(b *api.AirBoat) { b.Divers[1] = d }) }
	for i, x := range []struct {
		b           api.AirBoat
		diver       int
		need, lasts api.Span
		e           api.Errno
	}{
		{boatB(), 0, sp(600, 880), sp(4, 6), api.OK}, {boatB(), 1, sp(450, 700), sp(2, 4), api.OK},
		{diver(api.AirDiver{Breath: just(1)}), 1, just(10), just(0), api.OK}, {diver(api.AirDiver{Breath: just(1), Reserve: 9}), 1, just(10), just(0), api.OK}, {diver(api.AirDiver{Breath: sp(1, 2), Reserve: 10}), 1, sp(10, 20), sp(0, 1), api.OK}, {diver(api.AirDiver{Breath: just(1), Reserve: api.AirReserve}), 1, just(10), just(100000), api.OK},
		{diver(api.AirDiver{Breath: just(api.AirBreath), Depth: just(api.AirDepth), Reserve: 29999}), 1, just(10000), just(2), api.OK},
		{boatB(), 2, api.Span{}, api.Span{}, api.ErrArg}, {boatB(), -1, api.Span{}, api.Span{}, api.ErrArg}, {boatB(), 1<<63 - 1, api.Span{}, api.Span{}, api.ErrArg}, {boatB(), -1 << 63, api.Span{}, api.Span{}, api.ErrArg},
	} {
		if s, e := air.Need(x.b, x.diver); e != x.e || s != x.need {
			t.Error(i, s, e)
		}
		if s, e := air.Lasts(x.b, x.diver); e != x.e || s != x.lasts {
			t.Error(i, s, e)
		}
	}
	for i, b := range badBoats() {
		if s, e := air.Need(b, 0); e != api.ErrArg || s != (api.Span{}) {
			t.Error(i, s, e)
		}
		if s, e := air.Lasts(b, 0); e != api.ErrArg || s != (api.Span{}) {
			t.Error(i, s, e)
		}
	}
}

// ends returns the least and the greatest of some numbers.
func ends(all []int) api.Span { return sp(slices.Min(all), slices.Max(all)) }

// P4.1: whatever is true, need and minutes lie within their bounds, and each end is reached
func TestNeedAndLastsOfAny(t *testing.T) {
	r := source(1)
	for range 2000 {
		b := boatB()
		d := api.AirDiver{Breath: span(r, 1, api.AirBreath, 5), Depth: span(r, 0, api.AirDepth, 5), Reserve: r.Intn(api.AirReserve + 1)}
		b.Divers[0] = d
		var need, lasts []int
		for breath := d.Breath.Low; breath <= d.Breath.High; breath++ {
			for depth := d.Depth.Low; depth <= d.Depth.High; depth++ {
				need, lasts = append(need, breath*(10+depth)), append(lasts, d.Reserve/(breath*(10+depth)))
			}
		}
		if s, e := air.Need(b, 0); e != api.OK || s != ends(need) {
			t.Fatal(d, s, e)
		}
		if s, e := air.Lasts(b, 0); e != api.OK || s != ends(lasts) {
			t.Fatal(d, s, e)
		}
	}
}

// badTruths returns truths of the boat b that do not have a number for each thing.
func badTruths() []api.AirTruth {
	var bad []api.AirTruth
	for _, list := range []func(*api.AirTruth) *[]int{
		func(x *api.AirTruth) *[]int { return &x.Stroke }, func(x *api.AirTruth) *[]int { return &x.Strokes }, func(x *api.AirTruth) *[]int { return &x.Loss }, func(x *api.AirTruth) *[]int { return &x.Breath }, func(x *api.AirTruth) *[]int { return &x.Depth },
	} {
		none, fewer, more := truthB(), truthB(), truthB()
		*list(&none) = nil
		*list(&fewer) = (*list(&fewer))[1:]
		*list(&more) = append(*list(&more), (*list(&more))[0])
		bad = append(bad, none, fewer, more)
	}
	return append(bad, api.AirTruth{})
}

// P4.2
func TestFitsAndMargins(t *testing.T) {
	check := func(x api.AirTruth, want bool) {
		t.Helper()
		if is, e := air.Fits(boatB(), x); e != api.OK || is != want {
			t.Error(x, is, e)
		}
		m, e := air.Margins(boatB(), postP(), x)
		if (e == api.OK) != want || !want && (e != api.ErrArg || len(m) != 0) {
			t.Error(x, m, e)
		}
	}
	spans := func(s api.Span, list func(*api.AirTruth) []int, i int) {
		t.Helper()
		for _, n := range l(s.Low-1, s.Low, s.High, s.High+1, -1<<63, 1<<63-1) {
			x := truthB()
			list(&x)[i] = n
			check(x, s.Low <= n && n <= s.High)
		}
	}
	check(truthB(), true)
	for i, p := range boatB().Pumps {
		spans(p.Stroke, func(x *api.AirTruth) []int { return x.Stroke }, i)
	}
	for i, c := range boatB().Crews {
		spans(c.Strokes, func(x *api.AirTruth) []int { return x.Strokes }, i)
	}
	for i, h := range boatB().Hoses {
		spans(h.Loss, func(x *api.AirTruth) []int { return x.Loss }, i)
	}
	for i, d := range boatB().Divers {
		spans(d.Breath, func(x *api.AirTruth) []int { return x.Breath }, i)
		spans(d.Depth, func(x *api.AirTruth) []int { return x.Depth }, i)
	}
	for i, x := range badTruths() {
		if is, e := air.Fits(boatB(), x); e != api.ErrArg || is {
			t.Error(i, is, e)
		}
		if m, e := air.Margins(boatB(), postP(), x); e != api.ErrArg || len(m) != 0 {
			t.Error(i, m, e)
		}
	}
	for i, b := range badBoats() {
		if is, e := air.Fits(b, truthB()); e != api.ErrArg || is {
			t.Error(i, is, e)
		}
		if m, e := air.Margins(b, postP(), truthB()); e != api.ErrArg || len(m) != 0 {
			t.Error(i, m, e)
		}
	}
	for i, p := range badPosts() {
		if m, e := air.Margins(boatB(), p, truthB()); e != api.ErrArg || len(m) != 0 {
			t.Error(i, m, e)
		}
	}
}

// P4.2: the share is rounded down, and what is left of it after the loss is, too
func TestMargins(t *testing.T) {
	for i, x := range []struct {
		p    api.AirPost
		want []int
	}{
		{postP(), l(362, 469)}, {post(l(1, 0), l(0, 0), l(0, -1)), l(1155*90/100-735, 1155*95/100-570)}, {post(l(2, 0), l(0, 1), l(2, 1)), l(2100-735, 2565*95/100-570)},
		{post(l(0, 1), l(0, 0), l(1, -1)), l(1417*95/100-735, 1417*90/100-570)},
	} {
		if m, e := air.Margins(boatB(), x.p, truthB()); e != api.OK || !slices.Equal(m, x.want) {
			t.Error(i, m, e)
		}
	}
	// 7 strokes of 11 are 77, of which three divers have 25 each, and 24 of that is left with a loss of 1
	d := api.AirDiver{Breath: just(1)}
	b := api.AirBoat{
		Pumps: []api.AirPump{{Stroke: just(11), Feeds: 3}}, Crews: []api.AirCrew{{Men: 1, Strokes: just(7), Tire: 1}},
		Hoses: []api.AirHose{{Loss: just(1)}, {Loss: just(0)}, {Loss: just(90)}}, Divers: []api.AirDiver{d, d, d},
	}
	x := api.AirTruth{Stroke: l(11), Strokes: l(7), Loss: l(1, 0, 90), Breath: l(1, 1, 1), Depth: l(0, 0, 0)}
	if m, e := air.Margins(b, post(l(0, 1, 2), l(0, 0, 0), l(0)), x); e != api.OK || !slices.Equal(m, l(14, 15, -8)) {
		t.Error(m, e)
	}
}

// P4.2
func TestGivenAndFed(t *testing.T) {
	const never, may, surely = api.AirNever, api.AirMay, api.AirSurely
	words := func(w ...api.AirWord) []api.AirWord { return w }
	spans := func(s ...api.Span) []api.Span { return s }
	alone := func(breath api.Span) api.AirBoat {
		return with(func(b *api.AirBoat) { b.Divers = []api.AirDiver{{Breath: breath}} })
	}
	first := post(l(0), l(0), l(0, -1))
	for i, x := range []struct {
		b     api.AirBoat
		p     api.AirPost
		given []api.Span
		fed   []api.AirWord
	}{
		{boatB(), postP(), spans(sp(900, 1320), sp(800, 1254)), words(surely, surely)}, {boatB(), post(l(0, 1), l(0, 0), l(2, -1)), spans(sp(810, 1210), sp(720, 1149)), words(may, surely)},
		{boatB(), post(l(0, 1), l(0, 1), l(0, 1)), spans(sp(1800, 2640), sp(1800, 2850)), words(surely, surely)}, {boatB(), post(l(1, 2), l(1, 0), l(2, 0)), spans(sp(1440, 2280), sp(1710, 2420)), words(surely, surely)},
		// 1800 to 2640 are given, and just so much is needed, or one breath more or less
		{alone(just(180)), first, spans(sp(1800, 2640)), words(surely)}, {alone(sp(180, 181)), first, spans(sp(1800, 2640)), words(may)}, {alone(just(181)), first, spans(sp(1800, 2640)), words(may)},
		{with(func(b *api.AirBoat) {
			b.Divers = []api.AirDiver{{Breath: just(132), Depth: just(10)}}
		}), first, spans(sp(1800, 2640)), words(may)},
		{with(func(b *api.AirBoat) {
			b.Divers = []api.AirDiver{{Breath: just(133), Depth: just(10)}}
		}), first, spans(sp(1800, 2640)), words(never)},
	} {
		if s, e := air.Given(x.b, x.p); e != api.OK || !slices.Equal(s, x.given) {
			t.Error(i, s, e)
		}
		if w, e := air.Fed(x.b, x.p); e != api.OK || !slices.Equal(w, x.fed) {
			t.Error(i, w, e)
		}
	}
	check := func(b api.AirBoat, p api.AirPost) {
		t.Helper()
		if s, e := air.Given(b, p); e != api.ErrArg || len(s) != 0 {
			t.Error(b, p, s, e)
		}
		if w, e := air.Fed(b, p); e != api.ErrArg || len(w) != 0 {
			t.Error(b, p, w, e)
		}
	}
	for _, b := range badBoats() {
		check(b, postP())
	}
	for _, p := range badPosts() {
		check(boatB(), p)
	}
}

// P4.2: just those lists are posts that the definition says
func TestPosts(t *testing.T) {
	r := source(2)
	met := map[api.Errno]int{}
	for range 60 {
		b := anyBoat(r, small())
		for _, hoses := range lists(len(b.Divers), -1, len(b.Hoses)) {
			for _, pumps := range lists(len(b.Divers), -1, len(b.Pumps)) {
				for _, crews := range lists(len(b.Pumps), -2, len(b.Crews)) {
					p, want := post(hoses, pumps, crews), api.ErrArg
					if isPost(b, p) {
						want = api.OK
					}
					met[want]++
					if s, e := air.Given(b, p); e != want {
						t.Fatal(b, p, s, e)
					}
				}
			}
		}
	}
	wantAll(t, met, api.OK, api.ErrArg)
}

// P4.2: whatever is true, margins are what the definition says, what a diver is given lies within its bounds, each end is reached, and who surely is fed is, and who never is is not
func TestGivenAndFedOfAny(t *testing.T) {
	r := source(3)
	met := map[api.AirWord]int{}
	for range 150 {
		b := anyBoat(r, small())
		all := everyTruth(b)
		for _, p := range everyPost(b) {
			given, fed := make([][]int, len(b.Divers)), make([][]int, len(b.Divers))
			for _, x := range all {
				m, e := air.Margins(b, p, x)
				if e != api.OK || len(m) != len(b.Divers) {
					t.Fatal(b, p, x, m, e)
				}
				for diver, margin := range m {
					pump := p.Pumps[diver]
					got := gets(x, pump, p.Crews[pump], count(p.Pumps, pump), p.Hoses[diver])
					if margin != got-needs(x, diver) {
						t.Fatal(b, p, x, m)
					}
					given[diver] = append(given[diver], got)
					fed[diver] = append(fed[diver], margin)
				}
			}
			spans, e := air.Given(b, p)
			words, f := air.Fed(b, p)
			if e != api.OK || f != api.OK || len(spans) != len(b.Divers) || len(words) != len(b.Divers) {
				t.Fatal(b, p, spans, e, words, f)
			}
			for diver := range b.Divers {
				want, margins := api.AirMay, ends(fed[diver])
				if margins.Low >= 0 {
					want = api.AirSurely
				} else if margins.High < 0 {
					want = api.AirNever
				}
				met[want]++
				if spans[diver] != ends(given[diver]) || words[diver] != want {
					t.Fatal(b, p, spans, words, diver, want)
				}
			}
		}
	}
	wantAll(t, met, api.AirNever, api.AirMay, api.AirSurely)
}
