package air

import (
	"slices"

	"bathyal/api"
)

// failing is what fails, and which divers that concerns by where their air comes from.
type failing interface {
	concerns(s supply) bool
}

// What fails, each by its number.
type (
	failingPump int
	failingCrew int
	failingHose int
)

func (f failingPump) concerns(s supply) bool { return s.pump == int(f) }

func (f failingCrew) concerns(s supply) bool { return s.crew == int(f) }

func (f failingHose) concerns(s supply) bool { return s.hose == int(f) }

// named returns the failure of what fails.
func named(f failing) api.AirFailure {
	switch n := f.(type) {
	case failingPump:
		return api.AirFailure{What: api.AirPumpFails, Number: int(n)}
	case failingCrew:
		return api.AirFailure{What: api.AirCrewFails, Number: int(n)}
	case failingHose:
		return api.AirFailure{What: api.AirHoseFails, Number: int(n)}
	}
	return api.AirFailure{}
}

// failures returns all that can fail, in order. Also what the post does not use is among it, as it concerns nobody.
func (m manned) failures() []failing {
	var all []failing
	for pump := range m.Pumps {
		all = append(all, failingPump(pump))
	}
	for crew := range m.Crews {
		all = append(all, failingCrew(crew))
	}
	for hose := range m.Hoses {
		all = append(all, failingHose(hose))
	}
	return all
}

// others returns the divers whom a failure concerns, and who do not come up by themselves.
func (m manned) others(f failing) []int {
	var others []int
	for diver, d := range m.Divers {
		if f.concerns(m.supply(diver)) && lasts(d).Low < d.Up {
			others = append(others, diver)
		}
	}
	return others
}

// isSpare reports whether a number is that of a spare for what fails, for some divers. A hose has one diver.
func (m manned) isSpare(f failing, number int, others []int) bool {
	switch f.(type) {
	case failingPump:
		return number < len(m.Pumps) && m.post.Crews[number] == none && m.Pumps[number].Feeds >= len(others)
	case failingCrew:
		return number < len(m.Crews) && !slices.Contains(m.post.Crews, number)
	case failingHose:
		return number < len(m.Hoses) && !slices.Contains(m.post.Hoses, number) && m.reaches(number, others[0])
	}
	return false
}

// instead returns where the air of a diver comes from when a spare stands in for what fails, for so many divers.
func (m manned) instead(f failing, spare, others, diver int) supply {
	s := m.supply(diver)
	switch f.(type) {
	case failingPump:
		s.pump, s.sharers = spare, others
	case failingCrew:
		s.crew, s.sharers = spare, others
	case failingHose:
		s.hose = spare
	}
	return s
}

// feeds reports whether a diver surely is fed so.
func (m manned) feeds(s supply, diver int) bool {
	return m.least(s) >= need(m.Divers[diver]).High
}

// waits reports whether the reserve of a diver lasts until a spare stands in.
func (m manned) waits(diver int) bool { return lasts(m.Divers[diver]).Low >= m.Change }

// saved reports whether a spare saves some divers from what fails.
func (m manned) saved(f failing, others []int) bool {
spares:
	for number := range max(api.AirPumps, api.AirCrews, api.AirHoses) {
		if !m.isSpare(f, number, others) {
			continue
		}
		for _, diver := range others {
			if !m.waits(diver) || !m.feeds(m.instead(f, number, len(others), diver), diver) {
				continue spares
			}
		}
		return true
	}
	return false
}

// danger returns the first failure that loses a diver, and that diver, or false if there is none.
func (m manned) danger() (failing, int, bool) {
	for _, f := range m.failures() {
		if others := m.others(f); len(others) > 0 && !m.saved(f, others) {
			return f, others[0], true
		}
	}
	return nil, 0, false
}

// fed reports whether all divers surely are fed.
func (m manned) fed() bool {
	for diver := range m.Divers {
		if !m.feeds(m.supply(diver), diver) {
			return false
		}
	}
	return true
}

// safe reports whether the post is safe.
func (m manned) safe() bool {
	if !m.fed() {
		return false
	}
	_, _, some := m.danger()
	return !some
}

// men returns the men of all crews that drive a pump, and how many crews these are.
func (m manned) men() (men, driven int) {
	for _, crew := range m.post.Crews {
		if crew != none {
			men += m.Crews[crew].Men
			driven++
		}
	}
	return men, driven
}

// betters reports whether a post has fewer men than another one, or as many and fewer pumps.
func (m manned) betters(other manned) bool {
	men, driven := m.men()
	most, many := other.men()
	return men < most || men == most && driven < many
}

// Danger returns the first danger of a post.
func Danger(b api.AirBoat, p api.AirPost) (api.AirFailure, int, api.Errno) {
	m, e := posted(b, p)
	if e != api.OK {
		return api.AirFailure{}, 0, e
	}
	if !m.fed() {
		return api.AirFailure{}, 0, api.ErrRule
	}
	f, diver, some := m.danger()
	if !some {
		return api.AirFailure{}, 0, api.ErrNone
	}
	return named(f), diver, api.OK
}

// Post returns the best post of a boat, and its men.
func Post(b api.AirBoat) (api.AirPost, int, api.Errno) {
	if e := Check(b); e != api.OK {
		return api.AirPost{}, 0, e
	}
	m, some := best(posts(b), manned.safe, manned.betters)
	if !some {
		return api.AirPost{}, 0, api.ErrNone
	}
	men, _ := m.men()
	return m.post, men, api.OK
}
