package air

import (
	"iter"
	"slices"

	"bathyal/api"
)

// manned is a boat with a post, be it full or only begun.
type manned struct {
	api.AirBoat
	post api.AirPost
}

// reaches reports whether a hose is long enough for a diver.
func (m manned) reaches(hose, diver int) bool {
	return m.Hoses[hose].Long >= m.Divers[diver].Depth.High
}

// takesHose reports whether the next diver can have a hose.
func (m manned) takesHose(hose int) bool {
	diver := len(m.post.Hoses)
	return within(hose, 0, len(m.Hoses)-1) && m.reaches(hose, diver) && !slices.Contains(m.post.Hoses, hose)
}

// takesPump reports whether the next diver can have a pump.
func (m manned) takesPump(pump int) bool {
	return within(pump, 0, len(m.Pumps)-1) && m.sharers(pump) < m.Pumps[pump].Feeds
}

// takesCrew reports whether the next pump can have a crew, or none.
func (m manned) takesCrew(crew int) bool {
	pump := len(m.post.Crews)
	if m.sharers(pump) == 0 {
		return crew == none
	}
	return within(crew, 0, len(m.Crews)-1) && !slices.Contains(m.post.Crews, crew)
}

// full reports whether nothing is missing in the post.
func (m manned) full() bool { return len(m.post.Crews) == len(m.Pumps) }

// add returns the boat with one number more in its post, which has hoses first, pumps then, and crews in the end, or false if that number cannot be there.
func (m manned) add(number int) (manned, bool) {
	p := &m.post
	list, takes := &p.Crews, m.takesCrew
	if len(p.Hoses) < len(m.Divers) {
		list, takes = &p.Hoses, m.takesHose
	} else if len(p.Pumps) < len(m.Divers) {
		list, takes = &p.Pumps, m.takesPump
	}
	if !takes(number) {
		return manned{}, false
	}
	*list = with(*list, number)
	return m, true
}

// man returns a boat with a post, and gives up if the post is not as defined.
func man(b api.AirBoat, p api.AirPost) manned {
	if len(p.Hoses) != len(b.Divers) || len(p.Pumps) != len(b.Divers) || len(p.Crews) != len(b.Pumps) {
		panic(wrongPost{})
	}
	m := manned{AirBoat: b}
	for _, number := range slices.Concat(p.Hoses, p.Pumps, p.Crews) {
		more, ok := m.add(number)
		if !ok {
			panic(wrongPost{})
		}
		m = more
	}
	return m
}

// posted returns a boat with a post, or ErrArg if one of them is not as defined.
func posted(b api.AirBoat, p api.AirPost) (manned, api.Errno) {
	if e := Check(b); e != api.OK {
		return manned{}, e
	}
	var m manned
	e := attempt(func() { m = man(b, p) })
	return m, e
}

// posts yields a boat with each of its posts, in lexicographic order.
func posts(b api.AirBoat) iter.Seq[manned] {
	last := max(len(b.Hoses), len(b.Pumps), len(b.Crews)) - 1
	return func(yield func(manned) bool) {
		var fill func(m manned) bool
		fill = func(m manned) bool {
			if m.full() {
				return yield(m)
			}
			for number := none; number <= last; number++ {
				if more, ok := m.add(number); ok && !fill(more) {
					return false
				}
			}
			return true
		}
		fill(manned{AirBoat: b})
	}
}

// sharers returns how many divers a pump has.
func (m manned) sharers(pump int) int {
	sharers := 0
	for _, p := range m.post.Pumps {
		if p == pump {
			sharers++
		}
	}
	return sharers
}

// supply is where the air of a diver comes from: a pump, the crew that drives it, how many divers share what it gives, and a hose.
type supply struct {
	pump    int
	crew    int
	sharers int
	hose    int
}

// supply returns where the air of a diver comes from.
func (m manned) supply(diver int) supply {
	pump := m.post.Pumps[diver]
	return supply{pump: pump, crew: m.post.Crews[pump], sharers: m.sharers(pump), hose: m.post.Hoses[diver]}
}

// given returns what a diver is given in a minute, in truth.
func given(stroke, strokes, sharers, loss int) int {
	share := stroke * strokes / sharers
	return share * (whole - loss) / whole
}

// end is an end of what a diver is given.
type end int

// The ends.
const (
	low end = iota
	high
	ends
)

// least returns the least that a diver is given.
func (m manned) least(s supply) int {
	return given(m.Pumps[s.pump].Stroke.Low, m.Crews[s.crew].Strokes.Low, s.sharers, m.Hoses[s.hose].Loss.High)
}

// greatest returns the most that a diver is given.
func (m manned) greatest(s supply) int {
	return given(m.Pumps[s.pump].Stroke.High, m.Crews[s.crew].Strokes.High, s.sharers, m.Hoses[s.hose].Loss.Low)
}

// given returns between which bounds lies what a diver is given.
func (m manned) given(diver int) api.Span {
	both := [ends]func(supply) int{low: m.least, high: m.greatest}
	s := m.supply(diver)
	return api.Span{Low: both[low](s), High: both[high](s)}
}

// word returns what is known of whether a diver is fed.
//
// What he is given and what he needs have no number in common, so that the worst of both can be true at once.
func (m manned) word(diver int) api.AirWord {
	air, wanted := m.given(diver), need(m.Divers[diver])
	switch {
	case air.Low >= wanted.High:
		return api.AirSurely
	case air.High < wanted.Low:
		return api.AirNever
	}
	return api.AirMay
}

// Margins returns the margins of all divers, in truth.
func Margins(b api.AirBoat, p api.AirPost, x api.AirTruth) ([]int, api.Errno) {
	m, e := posted(b, p)
	if e != api.OK || !shaped(b, x) || !fits(b, x) {
		return nil, api.ErrArg
	}
	margins := make([]int, len(b.Divers))
	for diver := range margins {
		s := m.supply(diver)
		air := given(x.Stroke[s.pump], x.Strokes[s.crew], s.sharers, x.Loss[s.hose])
		margins[diver] = air - needed(x.Breath[diver], x.Depth[diver])
	}
	return margins, api.OK
}

// Given returns between which bounds lies what each diver is given.
func Given(b api.AirBoat, p api.AirPost) ([]api.Span, api.Errno) {
	m, e := posted(b, p)
	if e != api.OK {
		return nil, e
	}
	spans := make([]api.Span, len(b.Divers))
	for diver := range spans {
		spans[diver] = m.given(diver)
	}
	return spans, api.OK
}

// Fed returns whether each diver is fed.
func Fed(b api.AirBoat, p api.AirPost) ([]api.AirWord, api.Errno) {
	m, e := posted(b, p)
	if e != api.OK {
		return nil, e
	}
	words := make([]api.AirWord, len(b.Divers))
	for diver := range words {
		words[diver] = m.word(diver)
	}
	return words, api.OK
}
