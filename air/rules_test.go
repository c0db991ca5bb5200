package air_test

import (
	"math"
	"math/rand"
	"slices"
	"testing"

	"bathyal/air"
	"bathyal/api"
)

// closer returns a span within another one.
func closer(r *rand.Rand, s api.Span) api.Span {
	from := anyOf(r, s.Low, s.High)
	return sp(from, anyOf(r, from, s.High))
}

// copyOf returns a boat that shares no memory with another one.
func copyOf(b api.AirBoat) api.AirBoat {
	return api.AirBoat{Pumps: slices.Clone(b.Pumps), Crews: slices.Clone(b.Crews), Hoses: slices.Clone(b.Hoses), Divers: slices.Clone(b.Divers), Change: b.Change}
}

// better returns a boat of which more is known, with more reserve, and less time to change.
func better(r *rand.Rand, b api.AirBoat) api.AirBoat {
	b = copyOf(b)
	for i := range b.Pumps {
		b.Pumps[i].Stroke = closer(r, b.Pumps[i].Stroke)
	}
	for i := range b.Crews {
		b.Crews[i].Strokes = closer(r, b.Crews[i].Strokes)
	}
	for i := range b.Hoses {
		b.Hoses[i].Loss = closer(r, b.Hoses[i].Loss)
	}
	for i := range b.Divers {
		b.Divers[i].Breath, b.Divers[i].Depth = closer(r, b.Divers[i].Breath), closer(r, b.Divers[i].Depth)
		b.Divers[i].Reserve += r.Intn(3) * r.Intn(100)
	}
	b.Change = r.Intn(b.Change + 1)
	return b
}

// P4.10: numbers that are known better, more reserve, and less time to change, never make a safe post unsafe, nor the best one have more men
func TestBetterBoats(t *testing.T) {
	r := source(15)
	met := map[string]int{}
	for range 400 {
		b := anyBoat(r, size{pumps: 3, crews: 4, hoses: 3, divers: 2, wide: 4})
		c := better(r, b)
		for _, p := range everyPost(b) {
			was, is := isSafe(t, b, p), isSafe(t, c, p)
			if was && !is {
				t.Fatal(b, c, p)
			}
			if is {
				met["safe"]++
			}
			if is && !was {
				met["safe now"]++
			}
		}
		_, most, e := air.Post(b)
		_, men, f := air.Post(c)
		if e == api.OK && (f != api.OK || men > most) {
			t.Fatal(b, c, most, e, men, f)
		}
		if f == api.OK && (e != api.OK || men < most) {
			met["fewer men"]++
		}
	}
	wantAll(t, met, "safe", "safe now", "fewer men")
}

// P4.10: a crew that tires later, or rests less, never makes a roster worse
func TestBetterCrews(t *testing.T) {
	r := source(16)
	met := map[string]int{}
	for range 300 {
		var crews, fresher []api.AirCrew
		for range anyOf(r, 1, api.AirCrews) {
			c := anyCrew(r, 0)
			crews = append(crews, c)
			c.Tire, c.Rest = anyOf(r, c.Tire, api.AirWatches), anyOf(r, 0, c.Rest)
			fresher = append(fresher, c)
		}
		watches, pumps := anyOf(r, 1, 4), anyOf(r, 1, min(len(crews), api.AirPumps))
		for range 50 {
			var x [][]int
			for range watches {
				x = append(x, slices.Sorted(slices.Values(r.Perm(len(crews))[:pumps])))
			}
			was, e := air.Keeps(crews, x)
			is, f := air.Keeps(fresher, x)
			if e != api.OK || f != api.OK || was && !is {
				t.Fatal(crews, fresher, x, was, e, is, f)
			}
			if is && !was {
				met["kept now"]++
			}
		}
		_, most, e := air.Roster(crews, watches, pumps)
		_, men, f := air.Roster(fresher, watches, pumps)
		if e == api.OK && (f != api.OK || men > most) {
			t.Fatal(crews, fresher, watches, pumps, most, e, men, f)
		}
		if f == api.OK && (e != api.OK || men < most) {
			met["fewer men"]++
		}
	}
	wantAll(t, met, "kept now", "fewer men")
}

// results is the results of a call, of which the last one is its error.
type results []any

// given is arguments of all functions.
type given struct {
	boat           api.AirBoat
	post           api.AirPost
	truth          api.AirTruth
	diver          int
	roster         [][]int
	watches, pumps int
	naked          api.AirNaked
	depth, work    int
	hoses          int
	a, b           []int
	text           string
}

// asked returns the results of all functions.
func asked(g given) []results {
	var all []results
	add := func(r ...any) { all = append(all, r) }
	add(air.Check(g.boat))
	s, e := air.Need(g.boat, g.diver)
	add(s, e)
	s, e = air.Lasts(g.boat, g.diver)
	add(s, e)
	is, e := air.Fits(g.boat, g.truth)
	add(is, e)
	margins, e := air.Margins(g.boat, g.post, g.truth)
	add(margins, e)
	spans, e := air.Given(g.boat, g.post)
	add(spans, e)
	words, e := air.Fed(g.boat, g.post)
	add(words, e)
	f, n, e := air.Danger(g.boat, g.post)
	add(f, n, e)
	p, n, e := air.Post(g.boat)
	add(p, n, e)
	is, e = air.Keeps(g.boat.Crews, g.roster)
	add(is, e)
	best, n, e := air.Roster(g.boat.Crews, g.watches, g.pumps)
	add(best, n, e)
	s, e = air.Left(g.naked, g.depth)
	add(s, e)
	n, e = air.Deepest(g.naked, g.work)
	add(n, e)
	ends, e := air.Ends(g.hoses, g.a)
	add(ends, e)
	is, e = air.Alike(g.hoses, g.a, g.b)
	add(is, e)
	clearing, e := air.Clearing(g.hoses, g.a)
	add(clearing, e)
	text, e := air.Print(len(g.boat.Crews), g.roster)
	add(text, e)
	read, e := air.Read(len(g.boat.Crews), g.text)
	add(read, e)
	return all
}

// isZero reports whether a result is what it is together with an error.
func isZero(result any) bool {
	switch x := result.(type) {
	case bool:
		return !x
	case int:
		return x == 0
	case string:
		return x == ""
	case api.Span:
		return x == api.Span{}
	case api.AirFailure:
		return x == api.AirFailure{}
	case api.AirPost:
		return equal(x, api.AirPost{})
	case []int:
		return len(x) == 0
	case []api.Span:
		return len(x) == 0
	case []api.AirWord:
		return len(x) == 0
	case [][]int:
		return len(x) == 0
	}
	return false
}

// wild returns a number, or one that is out of all ranges.
func wild(r *rand.Rand, n int) int {
	all := l(math.MinInt, math.MinInt+1, -256, -2, -1, 0, 4, 5, 7, 41, 61, 91, 201, 301, 1001, 1<<31, 1<<32+1, math.MaxInt-1, math.MaxInt)
	if r.Intn(40) > 0 {
		return n
	}
	return all[r.Intn(len(all))]
}

// wildSpan returns a span, or one that is not as defined.
func wildSpan(r *rand.Rand, s api.Span) api.Span { return sp(wild(r, s.Low), wild(r, s.High)) }

// wildList returns a list with some numbers that are out of all ranges, or with one number more or less.
func wildList(r *rand.Rand, list []int) []int {
	var all []int
	for _, n := range list {
		all = append(all, wild(r, n))
	}
	switch r.Intn(40) {
	case 0:
		all = append(all, r.Intn(4))
	case 1:
		all = all[:len(all)/2]
	}
	return all
}

// wildBoat returns a boat, be it as defined or not.
func wildBoat(r *rand.Rand) api.AirBoat {
	b := anyBoat(r, small())
	n := r.Intn(20)
	switch i := r.Intn(2); n {
	case 0:
		b.Pumps = slices.Repeat(b.Pumps, 4*i)
	case 1:
		b.Crews = slices.Repeat(b.Crews, 5*i)
	case 2:
		b.Hoses = slices.Repeat(b.Hoses, 5*i)
	case 3:
		b.Divers = slices.Repeat(b.Divers, 4*i)
	case 4:
		b.Pumps[0] = api.AirPump{Stroke: wildSpan(r, b.Pumps[0].Stroke), Feeds: wild(r, 2)}
	case 5:
		b.Crews[0] = api.AirCrew{Men: wild(r, 1), Strokes: wildSpan(r, b.Crews[0].Strokes), Tire: wild(r, 1), Rest: wild(r, 1)}
	case 6:
		b.Hoses[0] = api.AirHose{Loss: wildSpan(r, b.Hoses[0].Loss), Long: wild(r, 20)}
	case 7:
		b.Divers[0] = api.AirDiver{Breath: wildSpan(r, b.Divers[0].Breath), Depth: wildSpan(r, b.Divers[0].Depth), Up: wild(r, 5), Reserve: wild(r, 5)}
	}
	b.Change = wild(r, b.Change)
	return b
}

// anything returns arguments, be they as defined or not.
func anything(r *rand.Rand) given {
	b := wildBoat(r)
	g := given{boat: b, diver: wild(r, r.Intn(2)), watches: wild(r, 1+r.Intn(4)), pumps: wild(r, 1+r.Intn(2)), depth: wild(r, r.Intn(41)), work: wild(r, r.Intn(200)), hoses: wild(r, 3)}
	for diver := range b.Divers {
		g.post.Hoses, g.post.Pumps = append(g.post.Hoses, diver), append(g.post.Pumps, r.Intn(max(1, len(b.Pumps))))
	}
	for pump := range b.Pumps {
		crew := -1
		if slices.Contains(g.post.Pumps, pump) {
			crew = pump
		}
		g.post.Crews = append(g.post.Crews, crew)
	}
	g.post = post(wildList(r, g.post.Hoses), wildList(r, g.post.Pumps), wildList(r, g.post.Crews))
	low := func(spans ...api.Span) []int {
		var all []int
		for _, s := range spans {
			all = append(all, s.Low)
		}
		return wildList(r, all)
	}
	for _, p := range b.Pumps {
		g.truth.Stroke = slices.Concat(g.truth.Stroke, low(p.Stroke))
	}
	for _, c := range b.Crews {
		g.truth.Strokes = slices.Concat(g.truth.Strokes, low(c.Strokes))
	}
	for _, h := range b.Hoses {
		g.truth.Loss = slices.Concat(g.truth.Loss, low(h.Loss))
	}
	for _, d := range b.Divers {
		g.truth.Breath, g.truth.Depth = slices.Concat(g.truth.Breath, low(d.Breath)), slices.Concat(g.truth.Depth, low(d.Depth))
	}
	for range wild(r, 1+r.Intn(4)) & 15 {
		g.roster = append(g.roster, wildList(r, l(r.Intn(3))))
	}
	g.naked = api.AirNaked{Breath: wildSpan(r, sp(60, 90)), Sink: wildSpan(r, sp(1, 2)), Rise: wildSpan(r, sp(2, 2))}
	g.a, g.b = wildList(r, anyTangle(r, 3, 5)), wildList(r, anyTangle(r, 2, 5))
	g.text = checked("sheet 1 1\n" + string([]byte{byte(47 + r.Intn(12))}) + "\n")
	return g
}

// P0.1, R2, R8: for all arguments, the functions end and do not panic, say the same again, and nothing but an error where there is one
func TestAnyValue(t *testing.T) {
	r := source(17)
	errors := map[any]int{}
	for range 4000 {
		g := anything(r)
		a := asked(g)
		if b := asked(g); !equal(a, b) {
			t.Fatal(g, a, b)
		}
		for i, result := range a {
			last := len(result) - 1
			errors[result[last]]++
			if result[last] != api.OK && slices.ContainsFunc(result[:last], func(x any) bool { return !isZero(x) }) {
				t.Fatal(g, i, result)
			}
			if result[last] == api.OK {
				errors[i]++
			}
		}
	}
	wantAll(t, errors, any(api.OK), any(api.ErrArg), any(api.ErrText), any(api.ErrNone), any(api.ErrRule))
	for i := range 18 {
		wantAll(t, errors, any(i))
	}
}

// R3: nil and empty lists are the same
func TestNilAndEmpty(t *testing.T) {
	check := func(a, b given) {
		t.Helper()
		if v, w := asked(a), asked(b); !equal(v, w) {
			t.Error(v, w)
		}
	}
	a := roomy()
	b := a
	a.a, b.a, a.b, b.b = nil, []int{}, []int{}, nil
	check(a, b)
	a.roster, b.roster = nil, [][]int{}
	check(a, b)
	a.roster, b.roster = [][]int{nil}, [][]int{{}}
	check(a, b)
	a.post, b.post = api.AirPost{}, post(l(), l(), l())
	a.truth, b.truth = api.AirTruth{}, api.AirTruth{Stroke: l(), Strokes: l(), Loss: l(), Breath: l(), Depth: l()}
	check(a, b)
	a.boat, b.boat = api.AirBoat{}, api.AirBoat{Pumps: []api.AirPump{}, Crews: []api.AirCrew{}, Hoses: []api.AirHose{}, Divers: []api.AirDiver{}}
	check(a, b)
}

// fill returns a list that has room for more, which is filled with 9.
func fill(list []int) []int {
	all := slices.Concat(list, l(9, 9, 9, 9))
	return all[:len(list)]
}

// fillThings returns a list of things that has room for more, which is filled with copies of the first one.
func fillThings[T any](list []T) []T {
	all := slices.Concat(list, slices.Repeat(list[:1], 4))
	return all[:len(list)]
}

// roomy returns arguments of lists that have room for more, for which all functions have results.
func roomy() given {
	b, x := boatC(), truthB()
	b.Pumps, b.Crews, b.Hoses, b.Divers = fillThings(b.Pumps), fillThings(b.Crews), fillThings(b.Hoses), fillThings(b.Divers)
	b.Divers[1].Reserve, b.Pumps[1].Feeds = 3000, 2
	return given{
		boat: b, post: post(fill(l(0, 1)), fill(l(0, 1)), fill(l(0, 1))),
		truth: api.AirTruth{Stroke: fill(x.Stroke), Strokes: fill(x.Strokes), Loss: fill(x.Loss), Breath: fill(x.Breath), Depth: fill(x.Depth)},
		diver: 1, roster: roster(fill(l(0, 1)), fill(l(0, 1)), fill(l(1, 2))), watches: 3, pumps: 2,
		naked: nakedN(), depth: 10, work: 30, hoses: 3, a: fill(l(1, 2, 1)), b: fill(l(2, 1, 2)), text: textX,
	}
}

// room returns all lists of arguments with what is behind their ends.
func room(g given) []any {
	var all []any
	x := g.truth
	for _, list := range slices.Concat(g.roster, roster(g.post.Hoses, g.post.Pumps, g.post.Crews, x.Stroke, x.Strokes, x.Loss, x.Breath, x.Depth, g.a, g.b)) {
		all = append(all, list[:len(list)+4])
	}
	b := g.boat
	return append(all, b.Pumps[:len(b.Pumps)+4], b.Crews[:len(b.Crews)+4], b.Hoses[:len(b.Hoses)+4], b.Divers[:len(b.Divers)+4])
}

// R4: no argument is changed, also beyond the end of a list
func TestArguments(t *testing.T) {
	g := roomy()
	for i, r := range asked(g) {
		if e := r[len(r)-1]; e != api.OK {
			t.Error(i, r)
		}
	}
	if !equal(room(g), room(roomy())) {
		t.Error(g)
	}
}

// R4: lists of a result share no memory with each other, nor with arguments
func TestResults(t *testing.T) {
	g := roomy()
	apart := func(all ...[]int) {
		t.Helper()
		for i := range all {
			all[i] = append(all[i], 99)
		}
		for i := range all {
			for k := range all[i] {
				all[i][k] = i
			}
		}
		for i := range all {
			if slices.ContainsFunc(all[i], func(n int) bool { return n != i }) {
				t.Error(all)
			}
		}
	}
	p, _, e := air.Post(g.boat)
	q, _, f := air.Post(g.boat)
	if e != api.OK || f != api.OK {
		t.Fatal(e, f)
	}
	apart(p.Hoses, p.Pumps, p.Crews, q.Hoses, q.Pumps, q.Crews)
	for _, crews := range [][]api.AirCrew{g.boat.Crews, strong(3)} {
		best, _, e := air.Roster(crews, 3, 2)
		again, _, f := air.Roster(crews, 3, 2)
		if e != api.OK || f != api.OK {
			t.Fatal(e, f)
		}
		apart(slices.Concat(best, again)...)
	}
	read, e := air.Read(3, textX)
	if e != api.OK {
		t.Fatal(e)
	}
	apart(read...)
	clearing, _ := air.Clearing(3, g.a)
	ends, _ := air.Ends(3, g.a)
	margins, _ := air.Margins(g.boat, g.post, g.truth)
	apart(clearing, ends, margins)
	if !equal(room(g), room(roomy())) {
		t.Error(g)
	}
}
