package air_test

import (
	"math/rand"
	"reflect"
	"slices"
	"testing"

	"bathyal/air"
	"bathyal/api"
)

func sp(low, high int) api.Span { return api.Span{Low: low, High: high} }

func just(n int) api.Span { return sp(n, n) }

func l(n ...int) []int { return n }

// boatB returns the boat b of the chapter.
func boatB() api.AirBoat {
	return api.AirBoat{
		Pumps:  []api.AirPump{{Stroke: sp(100, 110), Feeds: 2}, {Stroke: sp(90, 100), Feeds: 1}},
		Crews:  crewsB(),
		Hoses:  []api.AirHose{{Loss: sp(0, 10), Long: 20}, {Loss: sp(5, 20), Long: 30}, {Loss: sp(0, 5), Long: 15}},
		Divers: []api.AirDiver{{Breath: sp(30, 40), Depth: sp(10, 12), Up: 4, Reserve: 4000}, {Breath: sp(25, 35), Depth: sp(8, 10), Up: 6, Reserve: 2000}},
		Change: 2,
	}
}

// crewsB returns the crews of the boat b.
func crewsB() []api.AirCrew {
	return []api.AirCrew{{Men: 2, Strokes: sp(20, 24), Tire: 2, Rest: 1}, {Men: 3, Strokes: sp(25, 30), Tire: 3, Rest: 1}, {Men: 2, Strokes: sp(18, 22), Tire: 1, Rest: 1}}
}

// with returns the boat b with something changed.
func with(change func(*api.AirBoat)) api.AirBoat {
	b := boatB()
	change(&b)
	return b
}

// boatC returns the boat c of the chapter.
func boatC() api.AirBoat { return with(func(b *api.AirBoat) { b.Change = 3 }) }

func post(hoses, pumps, crews []int) api.AirPost {
	return api.AirPost{Hoses: hoses, Pumps: pumps, Crews: crews}
}

// postP returns the post p of the chapter.
func postP() api.AirPost { return post(l(0, 1), l(0, 0), l(0, -1)) }

// truthB returns a truth of the boat b.
func truthB() api.AirTruth {
	return api.AirTruth{Stroke: l(105, 95), Strokes: l(22, 27, 20), Loss: l(5, 10, 0), Breath: l(35, 30), Depth: l(11, 9)}
}

// nakedN returns the naked man n of the chapter.
func nakedN() api.AirNaked {
	return api.AirNaked{Breath: sp(90, 120), Sink: sp(1, 2), Rise: sp(2, 3)}
}

// badSpans returns spans that are not as defined, if they have to lie from low to high.
func badSpans(low, high int) []api.Span {
	return []api.Span{sp(low-1, high), sp(low, high+1), sp(high, low), sp(low+1, low), just(low - 1), just(high + 1), sp(-1<<63, 1<<63-1)}
}

// badNumbers returns numbers that are not from low to high.
func badNumbers(low, high int) []int {
	return l(low-1, high+1, -1<<63, 1<<63-1)
}

// badCrews returns crews that are not as defined.
func badCrews() []api.AirCrew {
	crew := crewsB()[0]
	var bad []api.AirCrew
	add := func(change func(*api.AirCrew)) {
		c := crew
		change(&c)
		bad = append(bad, c)
	}
	for _, n := range badNumbers(1, api.AirMen) {
		add(func(c *api.AirCrew) { c.Men = n })
	}
	for _, s := range badSpans(1, api.AirStrokes) {
		add(func(c *api.AirCrew) { c.Strokes = s })
	}
	for _, n := range badNumbers(1, api.AirWatches) {
		add(func(c *api.AirCrew) { c.Tire = n })
	}
	for _, n := range badNumbers(0, api.AirWatches) {
		add(func(c *api.AirCrew) { c.Rest = n })
	}
	return bad
}

// badBoats returns boats that are not as defined.
func badBoats() []api.AirBoat {
	var bad []api.AirBoat
	add := func(change func(*api.AirBoat)) { bad = append(bad, with(change)) }
	bad = append(bad, api.AirBoat{})
	add(func(b *api.AirBoat) { b.Pumps = nil })
	add(func(b *api.AirBoat) { b.Pumps = slices.Repeat(b.Pumps[:1], api.AirPumps+1) })
	add(func(b *api.AirBoat) { b.Crews = nil })
	add(func(b *api.AirBoat) { b.Crews = slices.Repeat(b.Crews[:1], api.AirCrews+1) })
	add(func(b *api.AirBoat) { b.Hoses = nil })
	add(func(b *api.AirBoat) { b.Hoses = slices.Repeat(b.Hoses[:1], api.AirHoses+1) })
	add(func(b *api.AirBoat) { b.Divers = nil })
	add(func(b *api.AirBoat) { b.Divers = slices.Repeat(b.Divers[:1], api.AirDivers+1) })
	for _, s := range badSpans(1, api.AirStroke) {
		add(func(b *api.AirBoat) { b.Pumps[1].Stroke = s })
	}
	for _, n := range badNumbers(1, api.AirDivers) {
		add(func(b *api.AirBoat) { b.Pumps[1].Feeds = n })
	}
	for _, c := range badCrews() {
		add(func(b *api.AirBoat) { b.Crews[2] = c })
	}
	for _, s := range badSpans(0, api.AirLoss) {
		add(func(b *api.AirBoat) { b.Hoses[2].Loss = s })
	}
	for _, n := range badNumbers(0, api.AirDepth) {
		add(func(b *api.AirBoat) { b.Hoses[2].Long = n })
	}
	for _, s := range badSpans(1, api.AirBreath) {
		add(func(b *api.AirBoat) { b.Divers[1].Breath = s })
	}
	for _, s := range badSpans(0, api.AirDepth) {
		add(func(b *api.AirBoat) { b.Divers[1].Depth = s })
	}
	for _, n := range badNumbers(0, api.AirMinutes) {
		add(func(b *api.AirBoat) { b.Divers[1].Up = n })
		add(func(b *api.AirBoat) { b.Change = n })
	}
	for _, n := range badNumbers(0, api.AirReserve) {
		add(func(b *api.AirBoat) { b.Divers[1].Reserve = n })
	}
	return bad
}

// badPosts returns posts of the boat b that are not as defined.
func badPosts() []api.AirPost {
	const most, least = 1<<63 - 1, -1 << 63
	return []api.AirPost{
		{},
		// lists of other lengths
		post(l(0), l(0, 0), l(0, -1)), post(l(0, 1, 2), l(0, 0), l(0, -1)), post(l(0, 1), l(0), l(0, -1)), post(l(0, 1), l(0, 0, 0), l(0, -1)), post(l(0, 1), l(0, 0), l(0)), post(l(0, 1), l(0, 0), l(0, -1, -1)), post(l(0), l(0), l(0, -1)), post(l(0, 1), l(0), l(0, 0, -1)), post(l(0, 1, 0), l(0), l(0, -1)),
		// numbers of nothing
		post(l(0, 3), l(0, 0), l(0, -1)), post(l(-1, 0), l(0, 0), l(0, -1)), post(l(0, 1), l(0, 2), l(0, -1)), post(l(0, 1), l(0, -1), l(0, -1)), post(l(0, 1), l(0, 0), l(3, -1)), post(l(0, 1), l(0, 0), l(-2, -1)), post(l(0, 1), l(0, 0), l(0, -2)), post(l(most, least), l(0, 0), l(0, -1)), post(l(0, 1), l(most, least), l(0, -1)), post(l(0, 1), l(0, 0), l(most, least)),
		// one hose for two divers, one crew for two pumps
		post(l(0, 0), l(0, 0), l(0, -1)), post(l(1, 1), l(0, 1), l(0, 1)), post(l(0, 1), l(0, 1), l(0, 0)), post(l(0, 1), l(1, 0), l(2, 2)),
		// crews without divers, divers without crews
		post(l(0, 1), l(0, 0), l(0, 1)), post(l(0, 1), l(0, 0), l(-1, -1)), post(l(0, 1), l(0, 0), l(-1, 0)), post(l(0, 1), l(0, 1), l(0, -1)), post(l(0, 1), l(0, 1), l(-1, 0)),
		// more divers than a pump feeds
		post(l(0, 1), l(1, 1), l(-1, 0)),
	}
}

// source returns numbers that are the same in each run.
func source(seed int64) *rand.Rand { return rand.New(rand.NewSource(seed)) }

// anyOf returns a number from low to high.
func anyOf(r *rand.Rand, low, high int) int { return low + r.Intn(high-low+1) }

// span returns a span from low to high that has at most so many numbers more than one.
func span(r *rand.Rand, low, high, wide int) api.Span {
	from := anyOf(r, low, high)
	return sp(from, min(high, from+r.Intn(wide+1)))
}

// size is how many pumps, crews, hoses and divers a boat has, at most, and how wide its spans are, at most.
type size struct{ pumps, crews, hoses, divers, wide int }

// small is the size of boats of which all truths are played out.
func small() size { return size{pumps: 2, crews: 3, hoses: 3, divers: 2, wide: 1} }

// large is the size of all boats.
func large() size {
	return size{pumps: api.AirPumps, crews: api.AirCrews, hoses: api.AirHoses, divers: api.AirDivers, wide: 3}
}

// anyCrew returns a crew.
func anyCrew(r *rand.Rand, wide int) api.AirCrew {
	return api.AirCrew{Men: anyOf(r, 1, api.AirMen), Strokes: span(r, 6, 12, wide), Tire: anyOf(r, 1, 4), Rest: anyOf(r, 0, 3)}
}

// anyBoat returns a boat with numbers with which divers are fed, may be fed, or are not.
func anyBoat(r *rand.Rand, s size) api.AirBoat {
	b := api.AirBoat{Change: r.Intn(5)}
	for range anyOf(r, 1, s.pumps) {
		b.Pumps = append(b.Pumps, api.AirPump{Stroke: span(r, 12, 30, s.wide), Feeds: anyOf(r, 1, api.AirDivers)})
	}
	for range anyOf(r, 1, s.crews) {
		b.Crews = append(b.Crews, anyCrew(r, s.wide))
	}
	for range anyOf(r, 1, s.hoses) {
		b.Hoses = append(b.Hoses, api.AirHose{Loss: span(r, 0, 20, s.wide), Long: anyOf(r, 4, 14)})
	}
	for range anyOf(r, 1, min(s.divers, len(b.Hoses))) {
		b.Divers = append(b.Divers, api.AirDiver{Breath: span(r, 1, 6, s.wide), Depth: span(r, 0, 8, s.wide), Up: r.Intn(9), Reserve: r.Intn(500)})
	}
	return b
}

// lists returns all lists of so many numbers from low to high, in lexicographic order.
func lists(long, low, high int) [][]int {
	all := [][]int{nil}
	for range long {
		var longer [][]int
		for _, list := range all {
			for n := low; n <= high; n++ {
				longer = append(longer, slices.Concat(list, l(n)))
			}
		}
		all = longer
	}
	return all
}

// everyPost returns all posts of a boat in lexicographic order, by the definition.
func everyPost(b api.AirBoat) []api.AirPost {
	var all []api.AirPost
	for _, hoses := range lists(len(b.Divers), 0, len(b.Hoses)-1) {
		for _, pumps := range lists(len(b.Divers), 0, len(b.Pumps)-1) {
			for _, crews := range lists(len(b.Pumps), -1, len(b.Crews)-1) {
				if p := post(hoses, pumps, crews); isPost(b, p) {
					all = append(all, p)
				}
			}
		}
	}
	return all
}

// count returns how often a number is in a list.
func count(list []int, number int) int {
	n := 0
	for _, x := range list {
		if x == number {
			n++
		}
	}
	return n
}

// isPost reports whether lists of the right lengths are a post, by the definition.
func isPost(b api.AirBoat, p api.AirPost) bool {
	for diver, hose := range p.Hoses {
		if hose < 0 || hose >= len(b.Hoses) || count(p.Hoses, hose) > 1 || b.Hoses[hose].Long < b.Divers[diver].Depth.High {
			return false
		}
	}
	for _, pump := range p.Pumps {
		if pump < 0 || pump >= len(b.Pumps) || count(p.Pumps, pump) > b.Pumps[pump].Feeds {
			return false
		}
	}
	for pump, crew := range p.Crews {
		if crew < -1 || crew >= len(b.Crews) || crew >= 0 && count(p.Crews, crew) > 1 || (crew >= 0) != (count(p.Pumps, pump) > 0) {
			return false
		}
	}
	return true
}

// everyTruth returns all truths of a boat, by the definition.
func everyTruth(b api.AirBoat) []api.AirTruth {
	all := []api.AirTruth{{}}
	known := func(s api.Span, list func(*api.AirTruth) *[]int) {
		var more []api.AirTruth
		for _, x := range all {
			for n := s.Low; n <= s.High; n++ {
				y := x
				*list(&y) = slices.Concat(*list(&y), l(n))
				more = append(more, y)
			}
		}
		all = more
	}
	for _, p := range b.Pumps {
		known(p.Stroke, func(x *api.AirTruth) *[]int { return &x.Stroke })
	}
	for _, c := range b.Crews {
		known(c.Strokes, func(x *api.AirTruth) *[]int { return &x.Strokes })
	}
	for _, h := range b.Hoses {
		known(h.Loss, func(x *api.AirTruth) *[]int { return &x.Loss })
	}
	for _, d := range b.Divers {
		known(d.Breath, func(x *api.AirTruth) *[]int { return &x.Breath })
		known(d.Depth, func(x *api.AirTruth) *[]int { return &x.Depth })
	}
	return all
}

// needs returns the need of a diver, in truth, by the definition.
func needs(x api.AirTruth, diver int) int { return x.Breath[diver] * (x.Depth[diver] + 10) }

// gets returns what comes out of a hose, in truth, by the definition.
func gets(x api.AirTruth, pump, crew, sharers, hose int) int {
	return x.Stroke[pump] * x.Strokes[crew] / sharers * (100 - x.Loss[hose]) / 100
}

// equal compares values of any type; nil and empty lists are the same.
func equal(a, b any) bool {
	return same(reflect.ValueOf(a), reflect.ValueOf(b))
}

func same(x, y reflect.Value) bool {
	if x.Type() != y.Type() {
		return false
	}
	switch x.Kind() {
	case reflect.Slice:
		if x.Len() != y.Len() {
			return false
		}
		for i := range x.Len() {
			if !same(reflect.ValueOf(x.Index(i).Interface()), reflect.ValueOf(y.Index(i).Interface())) {
				return false
			}
		}
		return true
	case reflect.Struct:
		for i := range x.NumField() {
			if !same(x.Field(i), y.Field(i)) {
				return false
			}
		}
		return true
	}
	return reflect.DeepEqual(x.Interface(), y.Interface())
}

// wantAll fails if some kind of case was never met, so that a test does not pass for nothing.
func wantAll[K comparable](t *testing.T, met map[K]int, kinds ...K) {
	t.Helper()
	for _, kind := range kinds {
		if met[kind] < 5 {
			t.Errorf("only %d cases: %v", met[kind], kind)
		}
	}
}

// isSafe reports whether a post is safe, as Fed and Danger say.
func isSafe(t *testing.T, b api.AirBoat, p api.AirPost) bool {
	t.Helper()
	words, e := air.Fed(b, p)
	if e != api.OK {
		t.Fatal(b, p, e)
	}
	_, _, e = air.Danger(b, p)
	if fed := !slices.ContainsFunc(words, func(w api.AirWord) bool { return w != api.AirSurely }); fed == (e == api.ErrRule) {
		t.Fatal(b, p, words, e)
	}
	return e == api.ErrNone
}
