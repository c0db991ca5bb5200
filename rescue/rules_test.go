package rescue_test

import (
	"math/rand"
	"slices"
	"testing"

	"bathyal/api"
	"bathyal/rescue"
)

// results is the results of a call, of which the last one is its error.
type results []any

// given is arguments of all functions.
type given struct {
	sea               api.RescueSea
	current, from, to int
	fleet             api.RescueFleet
	post              []int
	rule              api.RescueRule
	book              []api.RescueEntry
	days              []int
	day, depth        int
	men               [][]api.RescueEntry
	tasks             []int
	text              string
}

// functions is how many functions the chapter lists.
const functions = 16

// asked returns the results of all functions.
func asked(g given) []results {
	var all []results
	add := func(r ...any) { all = append(all, r) }
	add(rescue.Check(g.sea))
	list, n, e := rescue.Way(g.sea, g.current, g.from, g.to)
	add(list, n, e)
	add(rescue.Fleet(g.fleet))
	list, e = rescue.Worst(g.fleet, g.post)
	add(list, e)
	d, e := rescue.Danger(g.fleet, g.post)
	add(d, e)
	list, n, e = rescue.Post(g.fleet)
	add(list, n, e)
	add(rescue.Rule(g.rule))
	is, e := rescue.Fits(g.book, g.days)
	add(is, e)
	is, e = rescue.May(g.rule, g.book, g.days, g.day, g.depth)
	add(is, e)
	w, e := rescue.Known(g.rule, g.book, g.day, g.depth)
	add(w, e)
	list, e = rescue.Lacks(g.rule, g.book, g.day, g.depth)
	add(list, e)
	n, e = rescue.Deepest(g.rule, g.book, g.day)
	add(n, e)
	n, e = rescue.When(g.rule, g.book, g.day, g.depth)
	add(n, e)
	list, e = rescue.Team(g.rule, g.men, g.day, g.tasks)
	add(list, e)
	text, e := rescue.Print(g.book)
	add(text, e)
	b, e := rescue.Read(g.text)
	add(b, e)
	return all
}

// isZero reports whether a result is what it is together with an error.
func isZero(result any) bool {
	switch x := result.(type) {
	case bool:
		return !x
	case int:
		return x == 0
	case string:
		return x == ""
	case api.RescueWord:
		return x == 0
	case api.RescueDanger:
		return x == api.RescueDanger{}
	case []int:
		return len(x) == 0
	case []api.RescueEntry:
		return len(x) == 0
	}
	return false
}

// wild returns a number, or one that is out of all ranges.
func wild(r *rand.Rand, n int) int {
	all := l(least, least+1, -256, -2, -1, 0, 1, 3, 4, 6, 7, 10, 40, 41, 60, 61, 64, 240, 241, 1<<31, 1<<32+1, most-1, most)
	if r.Intn(120) > 0 {
		return n
	}
	return all[r.Intn(len(all))]
}

// wildList returns a longer list, or a shorter one, of which things can be changed.
func wildList[T any](r *rand.Rand, list []T, change func(*rand.Rand, T) T) []T {
	var all []T
	for _, x := range list {
		all = append(all, change(r, x))
	}
	switch r.Intn(80) {
	case 0:
		return slices.Repeat(all, anyOf(r, 2, 70))
	case 1:
		return all[:len(all)/2]
	case 2:
		return nil
	}
	return all
}

// wildRow returns a list of numbers, be it as defined or not.
func wildRow(r *rand.Rand, row []int) []int { return wildList(r, row, wild) }

// wildSea returns a sea, be it as defined or not.
func wildSea(r *rand.Rand, s api.RescueSea) api.RescueSea {
	change := func(r *rand.Rand, x api.RescueLeg) api.RescueLeg {
		return leg(wild(r, x.From), wild(r, x.To), wildRow(r, x.Minutes)...)
	}
	if r.Intn(2) == 0 {
		return s
	}
	return api.RescueSea{Places: wild(r, s.Places), Currents: wild(r, s.Currents), Legs: wildList(r, s.Legs, change), Chamber: wild(r, s.Chamber), Within: wild(r, s.Within)}
}

// wildFleet returns a fleet, be it as defined or not.
func wildFleet(r *rand.Rand, f api.RescueFleet) api.RescueFleet {
	changeBoat := func(r *rand.Rand, b api.RescueBoat) api.RescueBoat {
		return api.RescueBoat{Men: wild(r, b.Men), Ready: wild(r, b.Ready), Standby: b.Standby}
	}
	changeDiver := func(r *rand.Rand, d api.RescueDiver) api.RescueDiver {
		return diver(wild(r, d.Place), wild(r, d.Limit))
	}
	return fleet(wildSea(r, f.Sea), wildList(r, f.Boats, changeBoat), wildList(r, f.Divers, changeDiver))
}

// wildBook returns a book, be it as defined or not.
func wildBook(r *rand.Rand, b []api.RescueEntry) []api.RescueEntry {
	return wildList(r, b, func(r *rand.Rand, e api.RescueEntry) api.RescueEntry {
		return entry(api.RescueKind(wild(r, int(e.Kind))), wild(r, e.Depth), wild(r, e.Day.Low), wild(r, e.Day.High))
	})
}

// anything returns arguments, be they as defined or not.
func anything(r *rand.Rand) given {
	s, f, b := anySea(r, 9), anyFleet(r), anyBook(r)
	var days []int
	for _, e := range b {
		days = append(days, anyOf(r, e.Day.Low, e.Day.High))
	}
	rules := anyRule(r)
	rules = rule(wild(r, rules.Step), wild(r, rules.Rest), wild(r, rules.Deep), wild(r, rules.Window), wild(r, rules.Run))
	text, _ := rescue.Print(b)
	text = string(wildList(r, []byte(text), func(r *rand.Rand, b byte) byte {
		if r.Intn(200) == 0 {
			return byte(r.Intn(256))
		}
		return b
	}))
	var tasks []int
	for range anyOf(r, 1, 2) {
		tasks = append(tasks, anyOf(r, 0, 20))
	}
	return given{
		sea: wildSea(r, s), current: wild(r, r.Intn(s.Currents)), from: wild(r, r.Intn(s.Places)), to: wild(r, r.Intn(s.Places)),
		fleet: wildFleet(r, f), post: wildRow(r, anyPost(r, f)),
		rule: rules, book: wildBook(r, b), days: wildRow(r, days), day: wild(r, anyDay(r, b)), depth: wild(r, anyOf(r, 0, 30)),
		men: wildList(r, anyMen(r), wildBook), tasks: wildRow(r, tasks), text: text,
	}
}

// P0.1, R2, R8: for all arguments, the functions end and do not panic, say the same again, and nothing but an error where there is one
func TestAnyValue(t *testing.T) {
	r := source(13)
	met := map[any]int{}
	for range 4000 {
		g := anything(r)
		a := asked(g)
		if b := asked(g); len(a) != functions || !equal(a, b) {
			t.Fatal(g, a, b)
		}
		for i, result := range a {
			last := len(result) - 1
			met[result[last]]++
			if result[last] != api.OK && slices.ContainsFunc(result[:last], func(x any) bool { return !isZero(x) }) {
				t.Fatal(g, i, result)
			}
			if result[last] == api.OK {
				met[i]++
			}
		}
	}
	wantAll(t, met, any(api.OK), any(api.ErrArg), any(api.ErrLong), any(api.ErrText), any(api.ErrNone), any(api.ErrRule))
	for i := range functions {
		wantAll(t, met, any(i))
	}
}

// P0.1: nothing but wild numbers, alone and together with arguments that are as defined
func TestWildest(t *testing.T) {
	for _, n := range l(least, least+1, -1, 0, 1, 2, 3, 6, 7, 40, 41, 60, 61, 240, 241, 1<<31, 1<<32, most-1, most) {
		for many := range 8 {
			some := slices.Repeat(l(n), many)
			s := api.RescueSea{Places: n, Currents: n, Legs: slices.Repeat(legs(leg(n, n, some...)), many), Chamber: n, Within: n}
			entries := slices.Repeat(book(entry(api.RescueKind(n), n, n, n)), many)
			g := given{
				sea: s, current: n, from: n, to: n, fleet: fleet(s, slices.Repeat(boats(boat(n, n)), many), slices.Repeat(divers(diver(n, n)), many)), post: some,
				rule: rule(n, n, n, n, n), book: entries, days: some, day: n, depth: n, men: slices.Repeat(men(entries), many), tasks: some,
			}
			asked(g)
			x := g
			x.sea, x.fleet, x.rule, x.book, x.men = seaS(), fleetF(), ruleR(), bookA(), men(bookA(), bookB())
			asked(x)
			x = roomy()
			x.sea, x.fleet, x.rule, x.men = g.sea, g.fleet, g.rule, g.men
			asked(x)
			x = roomy()
			x.book, x.post, x.days, x.tasks = g.book, g.post, g.days, g.tasks
			asked(x)
		}
	}
}

// R3: nil and empty lists are the same
func TestNilAndEmpty(t *testing.T) {
	a, b := roomy(), roomy()
	a.sea.Legs, a.from, a.to, a.fleet.Sea.Legs, a.book, a.days, a.men[1], a.tasks = nil, 1, 1, nil, nil, nil, nil, l(0)
	b.sea.Legs, b.from, b.to, b.fleet.Sea.Legs, b.book, b.days, b.men[1], b.tasks = legs(), 1, 1, legs(), book(), l(), book(), l(0)
	if v, w := asked(a), asked(b); !equal(v, w) {
		t.Error(v, w)
	}
	a.sea.Legs, a.fleet.Boats, a.fleet.Divers, a.post, a.book, a.men, a.tasks = legs(leg(0, 1)), nil, nil, nil, bookA(), nil, nil
	b.sea.Legs, b.fleet.Boats, b.fleet.Divers, b.post, b.book, b.men, b.tasks = legs(leg(0, 1, l()...)), boats(), divers(), l(), bookA(), men(), l()
	if v, w := asked(a), asked(b); !equal(v, w) {
		t.Error(v, w)
	}
}

// fill returns a list that has room for more, which is filled with copies of the first thing.
func fill[T any](list []T) []T {
	all := slices.Concat(list, slices.Repeat(list[:1], 4))
	return all[:len(list)]
}

// roomySea returns the sea s, of which all lists have room for more.
func roomySea() api.RescueSea {
	s := seaS()
	for i := range s.Legs {
		s.Legs[i].Minutes = fill(s.Legs[i].Minutes)
	}
	s.Legs = fill(s.Legs)
	return s
}

// roomy returns arguments of lists that have room for more, for which all functions have results.
func roomy() given {
	f := fleet(roomySea(), fill(fleetF().Boats), fill(fleetF().Divers))
	return given{
		sea: roomySea(), current: 1, from: 3, to: 2, fleet: f, post: fill(l(0, 0, -1)),
		rule: ruleR(), book: fill(bookA()), days: fill(l(0, 1, 3, 5, 9)), day: 2, depth: 20, men: fill(men(fill(bookA()), fill(bookB()))), tasks: fill(l(5, 10)), text: textB,
	}
}

// behind returns a list that has room for more with what is there.
func behind[T any](list []T) []T { return list[:len(list)+4] }

// room returns all lists of arguments with what is behind their ends.
func room(g given) []any {
	all := []any{behind(g.sea.Legs), behind(g.fleet.Sea.Legs), behind(g.fleet.Boats), behind(g.fleet.Divers), behind(g.post), behind(g.book), behind(g.days), behind(g.men), behind(g.tasks)}
	for _, x := range slices.Concat(g.sea.Legs, g.fleet.Sea.Legs) {
		all = append(all, behind(x.Minutes))
	}
	for _, b := range g.men {
		all = append(all, behind(b))
	}
	return all
}

// R4: no argument is changed, also beyond the end of a list
func TestArguments(t *testing.T) {
	g := roomy()
	for i, r := range asked(g) {
		if e := r[len(r)-1]; e != api.OK {
			t.Error(i, r)
		}
	}
	if !equal(room(g), room(roomy())) {
		t.Error(g)
	}
}

// R4: lists of a result share no memory with those of another call, nor with arguments
func TestResults(t *testing.T) {
	g := roomy()
	before := asked(g)
	var numbers [][]int
	var books [][]api.RescueEntry
	for range 2 {
		for _, r := range asked(g) {
			switch x := r[0].(type) {
			case []int:
				numbers = append(numbers, append(x, 99))
			case []api.RescueEntry:
				books = append(books, append(x, pain(99, 99)))
			}
		}
	}
	if len(numbers) != 2*5 || len(books) != 2 {
		t.Error(len(numbers), len(books))
	}
	for i := range numbers {
		for k := range numbers[i] {
			numbers[i][k] = i
		}
	}
	for i := range numbers {
		if slices.ContainsFunc(numbers[i], func(n int) bool { return n != i }) {
			t.Error(numbers)
		}
	}
	for i := range books {
		for k := range books[i] {
			books[i][k].Depth = i
		}
	}
	for i := range books {
		if books[i][0].Depth != i {
			t.Error(books)
		}
	}
	if !equal(room(g), room(roomy())) || !equal(asked(g), before) {
		t.Error(g)
	}
}
