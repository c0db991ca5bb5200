package rescue

import (
	"iter"

	"bathyal/api"
)

const (
	ashore    = -1 // where a boat is that stays ashore
	none      = -1 // the boat that fails if none does
	unreached = -1 // the worst minutes of a diver whom no boat rescues
)

// Fleet returns the error of a fleet.
func Fleet(f api.RescueFleet) api.Errno {
	isBoat := func(b api.RescueBoat) bool {
		return within(b.Men, 1, api.RescueMen) && within(b.Ready, 0, api.RescueMinutes)
	}
	isDiver := func(d api.RescueDiver) bool {
		return isPlace(f.Sea, d.Place) && within(d.Limit, 0, api.RescueLimit)
	}
	if Check(f.Sea) != api.OK || !defined(f.Boats, api.RescueBoats, isBoat) || !defined(f.Divers, api.RescueDivers, isDiver) {
		return api.ErrArg
	}
	return api.OK
}

// posted is a fleet with a post, and with the chart of its sea.
type posted struct {
	api.RescueFleet
	chart chart
	post  []int
}

// isBerth reports whether a boat of a fleet can be at a place, or ashore.
func isBerth(f api.RescueFleet, place int) bool { return place == ashore || isPlace(f.Sea, place) }

// postedOf returns a fleet with a post, or its error.
func postedOf(f api.RescueFleet, post []int) (posted, api.Errno) {
	isOne := func(place int) bool { return isBerth(f, place) }
	if Fleet(f) != api.OK || len(post) != len(f.Boats) || !all(post, isOne) {
		return posted{}, api.ErrArg
	}
	return posted{f, chartOf(f.Sea), post}, api.OK
}

// rescue is after how many minutes a boat reaches a diver, and brings the diver to the chamber.
type rescue struct{ reaches, brings int }

// isSooner reports whether a diver is reached sooner than by another rescue.
func (r rescue) isSooner(other rescue) bool { return r.reaches < other.reaches }

// rescue returns how a boat rescues a diver with a current, or false if it does not.
func (p posted) rescue(boat, diver, current int) (rescue, bool) {
	b, d, lies := p.Boats[boat], p.Divers[diver], p.post[boat]
	if lies == ashore || !b.Standby {
		return rescue{}, false
	}
	var r rescue
	e := attempt(func() {
		there := p.chart.way(trip{current, lies, d.Place})
		back := p.chart.way(trip{current, d.Place, p.Sea.Chamber})
		r = rescue{sum(b.Ready, there.minutes), sum(b.Ready, there.minutes, back.minutes)}
	})
	return r, e == api.OK
}

// rescues yields how the boats that did not fail rescue a diver.
func (p posted) rescues(x api.RescueDanger) iter.Seq[rescue] {
	return func(yield func(rescue) bool) {
		for boat := range len(p.Boats) {
			if boat == x.Fails {
				continue
			}
			if r, is := p.rescue(boat, x.Diver, x.Current); is && !yield(r) {
				return
			}
		}
	}
}

// cases yields all that can be a danger for a diver, in the order of dangers.
func (p posted) cases(diver int) iter.Seq[api.RescueDanger] {
	return func(yield func(api.RescueDanger) bool) {
		for fails := none; fails < len(p.Boats); fails++ {
			for current := range p.Sea.Currents {
				if !yield(api.RescueDanger{Diver: diver, Fails: fails, Current: current}) {
					return
				}
			}
		}
	}
}

// worst returns the worst minutes of a diver.
func (p posted) worst(diver int) int {
	most := 0
	for x := range p.cases(diver) {
		r, is := best(p.rescues(x), rescue.isSooner)
		if !is {
			return unreached
		}
		most = max(most, r.reaches)
	}
	return most
}

// isInTime reports whether a boat that did not fail rescues a diver in time.
func (p posted) isInTime(x api.RescueDanger) bool {
	for r := range p.rescues(x) {
		if r.reaches <= p.Divers[x.Diver].Limit && r.brings <= p.Sea.Within {
			return true
		}
	}
	return false
}

// danger returns the first danger, or false if the post is safe.
func (p posted) danger() (first api.RescueDanger, is bool) {
search:
	for diver := range len(p.Divers) {
		for x := range p.cases(diver) {
			if !p.isInTime(x) {
				first, is = x, true
				break search
			}
		}
	}
	return first, is
}

// men returns the men of the post.
func (p posted) men() int {
	men := 0
	for boat, b := range p.Boats {
		if p.post[boat] != ashore {
			men += b.Men
		}
	}
	return men
}

// hasFewer reports whether a post has fewer men than another one.
func (p posted) hasFewer(other posted) bool { return p.men() < other.men() }

// safe yields the posts of a fleet that are safe, in lexicographic order.
func safe(f api.RescueFleet) iter.Seq[posted] {
	isWhole := func(post []int) bool { return len(post) == len(f.Boats) }
	berths := func([]int) []int {
		return numbers(api.Span{Low: ashore, High: f.Sea.Places - 1}, func(place int) bool { return isBerth(f, place) })
	}
	c := chartOf(f.Sea)
	return func(yield func(posted) bool) {
		for post := range lists(isWhole, berths) {
			p := posted{f, c, post}
			if _, is := p.danger(); !is && !yield(p) {
				return
			}
		}
	}
}

// Worst returns the worst minutes of each diver.
func Worst(f api.RescueFleet, post []int) ([]int, api.Errno) {
	p, e := postedOf(f, post)
	if e != api.OK {
		return nil, e
	}
	var worst []int
	for diver := range len(p.Divers) {
		worst = append(worst, p.worst(diver))
	}
	return worst, api.OK
}

// Danger returns the first danger of a post.
func Danger(f api.RescueFleet, post []int) (api.RescueDanger, api.Errno) {
	p, e := postedOf(f, post)
	if e != api.OK {
		return api.RescueDanger{}, e
	}
	x, is := p.danger()
	if !is {
		return api.RescueDanger{}, api.ErrNone
	}
	return x, api.OK
}

// Post returns the best post, and its men.
func Post(f api.RescueFleet) ([]int, int, api.Errno) {
	if e := Fleet(f); e != api.OK {
		return nil, 0, e
	}
	p, some := best(safe(f), posted.hasFewer)
	if !some {
		return nil, 0, api.ErrNone
	}
	return p.post, p.men(), api.OK
}
