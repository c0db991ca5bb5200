package air_test

import (
	"slices"
	"testing"

	"bathyal/air"
	"bathyal/api"
)

// always reports whether something is so in all truths.
func always(truths []api.AirTruth, is func(x api.AirTruth) bool) bool {
	return !slices.ContainsFunc(truths, func(x api.AirTruth) bool { return !is(x) })
}

// trial is a boat with a post, and all truths, in which the definitions are played out.
type trial struct {
	b      api.AirBoat
	p      api.AirPost
	truths []api.AirTruth
}

// lasts reports whether the reserve of a diver always lasts so long.
func (y trial) lasts(diver, minutes int) bool {
	return always(y.truths, func(x api.AirTruth) bool { return y.b.Divers[diver].Reserve/needs(x, diver) >= minutes })
}

// fed reports whether a diver always has enough air from a pump and a crew that others share, by a hose.
func (y trial) fed(diver, pump, crew, sharers, hose int) bool {
	return always(y.truths, func(x api.AirTruth) bool { return gets(x, pump, crew, sharers, hose) >= needs(x, diver) })
}

// allFed reports whether all divers always have enough air.
func (y trial) allFed() bool {
	for diver, pump := range y.p.Pumps {
		if !y.fed(diver, pump, y.p.Crews[pump], count(y.p.Pumps, pump), y.p.Hoses[diver]) {
			return false
		}
	}
	return true
}

// others returns those of some divers who do not come up by themselves.
func (y trial) others(concerned []int) []int {
	var others []int
	for _, diver := range concerned {
		if !y.lasts(diver, y.b.Divers[diver].Up) {
			others = append(others, diver)
		}
	}
	return others
}

// of returns the divers of a pump.
func (y trial) of(pump int) []int {
	var divers []int
	for diver, p := range y.p.Pumps {
		if p == pump {
			divers = append(divers, diver)
		}
	}
	return divers
}

// saved reports whether some divers can wait for a change, and are all fed then.
func (y trial) saved(others []int, fed func(diver int) bool) bool {
	return !slices.ContainsFunc(others, func(diver int) bool { return !y.lasts(diver, y.b.Change) || !fed(diver) })
}

// pumpSaves, crewSaves and hoseSaves report whether some spare saves some divers.
func (y trial) pumpSaves(pump int, others []int) bool {
	for spare, s := range y.b.Pumps {
		if y.p.Crews[spare] < 0 && s.Feeds >= len(others) && y.saved(others, func(diver int) bool { return y.fed(diver, spare, y.p.Crews[pump], len(others), y.p.Hoses[diver]) }) {
			return true
		}
	}
	return false
}

func (y trial) crewSaves(pump int, others []int) bool {
	for spare := range y.b.Crews {
		if count(y.p.Crews, spare) == 0 && y.saved(others, func(diver int) bool { return y.fed(diver, pump, spare, len(others), y.p.Hoses[diver]) }) {
			return true
		}
	}
	return false
}

func (y trial) hoseSaves(others []int) bool {
	for spare, h := range y.b.Hoses {
		if count(y.p.Hoses, spare) == 0 && y.saved(others, func(diver int) bool {
			pump := y.p.Pumps[diver]
			return h.Long >= y.b.Divers[diver].Depth.High && y.fed(diver, pump, y.p.Crews[pump], count(y.p.Pumps, pump), spare)
		}) {
			return true
		}
	}
	return false
}

// danger returns the first danger, by the definition.
func (y trial) danger() (api.AirFailure, int, api.Errno) {
	if !y.allFed() {
		return api.AirFailure{}, 0, api.ErrRule
	}
	for pump, crew := range y.p.Crews {
		if others := y.others(y.of(pump)); crew >= 0 && len(others) > 0 && !y.pumpSaves(pump, others) {
			return api.AirFailure{What: api.AirPumpFails, Number: pump}, others[0], api.OK
		}
	}
	for crew := range y.b.Crews {
		pump := slices.Index(y.p.Crews, crew)
		if others := y.others(y.of(pump)); pump >= 0 && len(others) > 0 && !y.crewSaves(pump, others) {
			return api.AirFailure{What: api.AirCrewFails, Number: crew}, others[0], api.OK
		}
	}
	for hose := range y.b.Hoses {
		diver := slices.Index(y.p.Hoses, hose)
		if diver >= 0 && len(y.others(l(diver))) > 0 && !y.hoseSaves(l(diver)) {
			return api.AirFailure{What: api.AirHoseFails, Number: hose}, diver, api.OK
		}
	}
	return api.AirFailure{}, 0, api.ErrNone
}

// P4.3
func TestDanger(t *testing.T) {
	pump := func(n int) api.AirFailure { return api.AirFailure{What: api.AirPumpFails, Number: n} }
	crew := func(n int) api.AirFailure { return api.AirFailure{What: api.AirCrewFails, Number: n} }
	hose := func(n int) api.AirFailure { return api.AirFailure{What: api.AirHoseFails, Number: n} }
	both := func(change func(*api.AirBoat)) api.AirBoat {
		return with(func(b *api.AirBoat) {
			b.Divers[0].Up, b.Pumps[1].Feeds = 5, 2 // so that neither diver comes up by himself
			change(b)
		})
	}
	keep := func(*api.AirBoat) {}
	well := func(b *api.AirBoat) { b.Pumps[1].Stroke.Low = 98 }
	third := func(b *api.AirBoat) { b.Pumps = append(b.Pumps, b.Pumps[0]) }
	three := post(l(0, 1), l(0, 0), l(0, -1, -1))
	weak := func(strokes int) api.AirCrew { return api.AirCrew{Men: 1, Strokes: sp(strokes, 60), Tire: 1} }
	crews := func(b api.AirBoat, crews ...api.AirCrew) api.AirBoat {
		b.Crews = crews
		return b
	}
	for i, x := range []struct {
		b     api.AirBoat
		p     api.AirPost
		f     api.AirFailure
		diver int
		e     api.Errno
	}{
		{boatB(), postP(), api.AirFailure{}, 0, api.ErrNone}, {boatC(), postP(), pump(0), 1, api.OK},
		// who comes up by himself just in time needs no spare
		{with(func(b *api.AirBoat) { b.Change, b.Divers[1].Reserve = 3, 4200 }), postP(), api.AirFailure{}, 0, api.ErrNone}, {with(func(b *api.AirBoat) { b.Change, b.Divers[1].Reserve = 60, 4199 }), postP(), pump(0), 1, api.OK}, {with(func(b *api.AirBoat) { b.Change, b.Divers[0].Up, b.Divers[1].Up = 60, 0, 0 }), postP(), api.AirFailure{}, 0, api.ErrNone},
		// a spare stands in just in time, or too late
		{with(func(b *api.AirBoat) { b.Divers[1].Reserve = 1400 }), postP(), api.AirFailure{}, 0, api.ErrNone}, {with(func(b *api.AirBoat) { b.Divers[1].Reserve = 1399 }), postP(), pump(0), 1, api.OK}, {with(func(b *api.AirBoat) { b.Change, b.Divers[1].Reserve = 0, 0 }), postP(), api.AirFailure{}, 0, api.ErrNone},
		// there is no spare pump
		{boatB(), post(l(0, 1), l(0, 1), l(0, 1)), pump(1), 1, api.OK}, {with(func(b *api.AirBoat) { b.Pumps = b.Pumps[:1] }), post(l(0, 1), l(0, 0), l(0)), pump(0), 1, api.OK},
		// both need the spare pump: 1800 is 900 for each, of which 810 is left, and 880 is needed
		{both(keep), postP(), pump(0), 0, api.OK}, {both(func(b *api.AirBoat) { b.Pumps[1].Stroke.Low = 97 }), postP(), pump(0), 0, api.OK}, {both(func(b *api.AirBoat) { b.Pumps[1].Stroke.Low = 98 }), postP(), api.AirFailure{}, 0, api.ErrNone}, {both(func(b *api.AirBoat) { b.Pumps[1].Stroke.Low, b.Pumps[1].Feeds = 98, 1 }), postP(), pump(0), 0, api.OK},
		// the second one cannot wait for it, and the first one is lost
		{both(func(b *api.AirBoat) { b.Pumps[1].Stroke.Low, b.Divers[1].Reserve = 98, 1399 }), postP(), pump(0), 0, api.OK},
		// two pumps that each would save one do not save both, but the last pump does
		{both(func(b *api.AirBoat) { b.Pumps[1].Feeds = 1; b.Pumps = append(b.Pumps, b.Pumps[1]) }), three, pump(0), 0, api.OK}, {both(func(b *api.AirBoat) { b.Pumps = append(b.Pumps, api.AirPump{Stroke: just(98), Feeds: 2}) }), three, api.AirFailure{}, 0, api.ErrNone},
		// there is no spare crew, or it is too weak
		{crews(boatB(), crewsB()[0]), postP(), crew(0), 1, api.OK}, {crews(boatB(), crewsB()[0], weak(8)), postP(), crew(0), 1, api.OK}, {crews(boatB(), crewsB()[0], weak(9)), postP(), api.AirFailure{}, 0, api.ErrNone},
		{crews(both(well), crewsB()[0], weak(19)), postP(), crew(0), 0, api.OK}, {crews(both(well), crewsB()[0], weak(20)), postP(), api.AirFailure{}, 0, api.ErrNone}, {crews(both(well), weak(8), crewsB()[0], weak(9), weak(20)), post(l(0, 1), l(0, 0), l(1, -1)), api.AirFailure{}, 0, api.ErrNone},
		// the crew of another pump is none
		{crews(with(third), crewsB()[:2]...), post(l(0, 1), l(0, 1), l(0, 1, -1)), crew(1), 1, api.OK}, {with(third), post(l(0, 1), l(0, 1), l(0, 1, -1)), api.AirFailure{}, 0, api.ErrNone},
		// there is no spare hose, or it is too short, or loses too much of what both share as before
		{with(func(b *api.AirBoat) { b.Hoses = b.Hoses[:2] }), postP(), hose(1), 1, api.OK}, {with(func(b *api.AirBoat) { b.Hoses[2].Long = 9 }), postP(), hose(1), 1, api.OK}, {with(func(b *api.AirBoat) { b.Hoses[2].Long = 10 }), postP(), api.AirFailure{}, 0, api.ErrNone}, {with(func(b *api.AirBoat) { b.Hoses[2].Loss.High = 30 }), postP(), api.AirFailure{}, 0, api.ErrNone}, {with(func(b *api.AirBoat) { b.Hoses[2].Loss.High = 31 }), postP(), hose(1), 1, api.OK},
		{with(func(b *api.AirBoat) { b.Hoses[2].Long = 9; b.Hoses = append(b.Hoses, b.Hoses[1]) }), postP(), api.AirFailure{}, 0, api.ErrNone},
		// not all are surely fed
		{boatB(), post(l(0, 1), l(0, 0), l(2, -1)), api.AirFailure{}, 0, api.ErrRule}, {boatC(), post(l(0, 1), l(0, 0), l(2, -1)), api.AirFailure{}, 0, api.ErrRule},
	} {
		if f, d, e := air.Danger(x.b, x.p); e != x.e || f != x.f || d != x.diver {
			t.Error(i, f, d, e)
		}
	}
	for i, b := range badBoats() {
		if f, d, e := air.Danger(b, postP()); e != api.ErrArg || f != (api.AirFailure{}) || d != 0 {
			t.Error(i, f, d, e)
		}
	}
	for i, p := range badPosts() {
		if f, d, e := air.Danger(boatB(), p); e != api.ErrArg || f != (api.AirFailure{}) || d != 0 {
			t.Error(i, f, d, e)
		}
	}
}

// trials returns all posts of many small boats, to be played out.
func trials(seed int64, boats int) []trial {
	r := source(seed)
	var all []trial
	for range boats {
		b := anyBoat(r, small())
		truths := everyTruth(b)
		if len(truths) > 128 {
			continue
		}
		for _, p := range everyPost(b) {
			all = append(all, trial{b: b, p: p, truths: truths})
		}
	}
	return all
}

// P4.3: the first danger is the one of the definition, when all truths are played out
func TestDangerOfAny(t *testing.T) {
	met := map[any]int{}
	for _, y := range trials(4, 1500) {
		want, diver, e := y.danger()
		f, d, g := air.Danger(y.b, y.p)
		if g != e || f != want || d != diver {
			t.Fatal(y.b, y.p, f, d, g, want, diver, e)
		}
		met[e]++
		met[want.What]++
		met[want.Number]++
		if e == api.OK {
			met[len(y.of(y.p.Pumps[diver])) > 1]++
		}
	}
	wantAll(t, met, any(api.OK), any(api.ErrNone), any(api.ErrRule), any(api.AirPumpFails), any(api.AirCrewFails), any(api.AirHoseFails), any(0), any(1), any(2), any(true), any(false))
}

// menOf returns the men of a post, and how many pumps have a crew.
func menOf(b api.AirBoat, p api.AirPost) (int, int) {
	men, pumps := 0, 0
	for _, crew := range p.Crews {
		if crew >= 0 {
			men, pumps = men+b.Crews[crew].Men, pumps+1
		}
	}
	return men, pumps
}

// bestPost returns the first one of some safe posts with the fewest men, and of those with the fewest pumps.
func bestPost(b api.AirBoat, safe []api.AirPost) (api.AirPost, int, api.Errno) {
	if len(safe) == 0 {
		return api.AirPost{}, 0, api.ErrNone
	}
	best := slices.MinFunc(safe, func(p, q api.AirPost) int {
		men, pumps := menOf(b, p)
		most, many := menOf(b, q)
		return slices.Compare(l(men, pumps), l(most, many))
	})
	men, _ := menOf(b, best)
	return best, men, api.OK
}

// P4.4
func TestPost(t *testing.T) {
	one := func(change func(*api.AirBoat)) api.AirBoat { // a boat with a diver who always comes up by himself
		b := with(func(b *api.AirBoat) { b.Divers = b.Divers[:1] })
		change(&b)
		return b
	}
	for i, x := range []struct {
		b    api.AirBoat
		want api.AirPost
		men  int
		e    api.Errno
	}{
		{boatB(), postP(), 2, api.OK}, {boatC(), api.AirPost{}, 0, api.ErrNone}, {with(func(b *api.AirBoat) { b.Crews = b.Crews[1:] }), postP(), 3, api.OK},
		{with(func(b *api.AirBoat) { b.Hoses = b.Hoses[:1] }), api.AirPost{}, 0, api.ErrNone}, {with(func(b *api.AirBoat) { b.Divers[0].Depth.High = 31 }), api.AirPost{}, 0, api.ErrNone},
		// the fewest men, then the first hose, the first pump, the first crew
		{one(func(b *api.AirBoat) {}), post(l(0), l(0), l(0, -1)), 2, api.OK}, {one(func(b *api.AirBoat) { b.Hoses[0].Long = 11 }), post(l(1), l(0), l(0, -1)), 2, api.OK}, {one(func(b *api.AirBoat) { b.Pumps[0].Stroke = just(1) }), post(l(0), l(1), l(-1, 0)), 2, api.OK}, {one(func(b *api.AirBoat) { b.Crews[0].Men = 3 }), post(l(0), l(0), l(2, -1)), 2, api.OK}, {one(func(b *api.AirBoat) { b.Crews[1].Men = 1 }), post(l(0), l(0), l(1, -1)), 1, api.OK},
		{one(func(b *api.AirBoat) { b.Crews[0].Strokes = just(9); b.Crews[2].Strokes = just(9) }), post(l(0), l(0), l(1, -1)), 3, api.OK},
		// as many men, but fewer pumps, though the first post in order has two pumps
		{with(func(b *api.AirBoat) {
			b.Pumps = slices.Repeat(b.Pumps[1:], 3)
			b.Pumps[2].Feeds = 2
			b.Crews = []api.AirCrew{{Men: 1, Strokes: just(60), Tire: 1}, {Men: 1, Strokes: just(60), Tire: 1}, {Men: 2, Strokes: just(60), Tire: 1}}
			b.Crews[0].Strokes, b.Crews[1].Strokes = just(20), just(20)
			b.Divers[1].Up, b.Divers[1].Reserve = 0, 0
		}), post(l(0, 1), l(2, 2), l(-1, -1, 2)), 2, api.OK},
	} {
		if p, n, e := air.Post(x.b); e != x.e || n != x.men || !equal(p, x.want) {
			t.Error(i, p, n, e)
		}
	}
	for i, b := range badBoats() {
		if p, n, e := air.Post(b); e != api.ErrArg || n != 0 || !equal(p, api.AirPost{}) {
			t.Error(i, p, n, e)
		}
	}
}

// P4.4, P0.4: the best post is that of the definition, when all truths are played out
func TestPostOfAny(t *testing.T) {
	met := map[any]int{}
	all := trials(5, 1500)
	for len(all) > 0 {
		var safe []api.AirPost
		b, tried := all[0].b, 0
		for tried < len(all) && equal(all[tried].b, b) {
			if _, _, e := all[tried].danger(); e == api.ErrNone {
				safe = append(safe, all[tried].p)
			}
			tried++
		}
		all = all[tried:]
		want, men, e := bestPost(b, safe)
		p, n, f := air.Post(b)
		if f != e || n != men || !equal(p, want) {
			t.Fatal(b, p, n, f, want, men, e)
		}
		met[e]++
		if e == api.OK {
			met[len(safe) > 1 && !equal(safe[0], want)]++
			_, pumps := menOf(b, p)
			met[pumps]++
		}
	}
	wantAll(t, met, any(api.OK), any(api.ErrNone), any(true), any(false), any(1), any(2))
}

// P4.4, P0.4: of large boats, too, no safe post has fewer men
func TestPostOfLarge(t *testing.T) {
	r := source(6)
	met := map[any]int{}
	for range 500 {
		b := anyBoat(r, large())
		for i := range b.Divers {
			b.Divers[i].Reserve *= 3
		}
		var safe []api.AirPost
		for _, p := range everyPost(b) {
			if isSafe(t, b, p) {
				safe = append(safe, p)
			}
		}
		want, men, e := bestPost(b, safe)
		p, n, f := air.Post(b)
		if f != e || n != men || !equal(p, want) {
			t.Fatal(b, p, n, f, want, men, e)
		}
		met[e]++
		if e == api.OK {
			met[len(b.Divers)]++
		}
	}
	wantAll(t, met, any(api.OK), any(api.ErrNone), any(1), any(2), any(3))
}
