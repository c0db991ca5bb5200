package share

import (
	"iter"
	"slices"

	"bathyal/api"
)

// end is an end of a share.
type end int

// The ends.
const (
	low end = iota
	high
	ends
)

// deserted returns a season in which some persons desert, and all others have the fate that they have.
func deserted(s api.ShareSeason, persons []int) api.ShareSeason {
	s.Persons = slices.Clone(s.Persons)
	for _, person := range persons {
		s.Persons[person].Fate = api.ShareDeserts
	}
	return s
}

// opened is a season with a person, and a set of persons who may desert.
type opened struct {
	api.ShareSeason
	person int
	may    int
}

// shares yields the share that the person has with each part of the set deserting.
func (o opened) shares() iter.Seq[int] {
	return func(yield func(int) bool) {
		for persons := range lists(members(o.may)) {
			if !yield(settle(deserted(o.ShareSeason, persons)).share(o.person)) {
				return
			}
		}
	}
}

// least returns the least share.
func (o opened) least() int {
	least, _ := best(o.shares(), func(a, b int) bool { return a < b })
	return least
}

// greatest returns the greatest share.
func (o opened) greatest() int {
	greatest, _ := best(o.shares(), func(a, b int) bool { return a > b })
	return greatest
}

// isOpen reports whether all persons of the set can be asked about: they stay, and are others than the house and the person.
func (o opened) isOpen() bool {
	if !isSet(o.may, len(o.Persons)) || has(o.may, house) || has(o.may, o.person) {
		return false
	}
	for _, person := range members(o.may) {
		if !stays(o.Persons[person]) {
			return false
		}
	}
	return true
}

// isSharer reports whether a season is as defined, and a number is that of a person of it who does not desert.
func isSharer(s api.ShareSeason, person int) bool {
	return Check(s) == api.OK && within(person, 0, len(s.Persons)-1) && shares(s.Persons[person])
}

// Owed returns between which bounds the share of a person lies, if some may desert.
func Owed(s api.ShareSeason, person, may int) (api.Span, api.Errno) {
	o := opened{ShareSeason: s, person: person, may: may}
	if !isSharer(s, person) || !o.isOpen() {
		return api.Span{}, api.ErrArg
	}
	both := [ends]func() int{low: o.least, high: o.greatest}
	return api.Span{Low: both[low](), High: both[high]()}, api.OK
}

// taken returns a season in which a person belongs to the crew of just some landings.
func taken(s api.ShareSeason, person int, trips []int) api.ShareSeason {
	s.Landings = slices.Clone(s.Landings)
	for landing := range s.Landings {
		s.Landings[landing].Crew &^= 1 << person
	}
	for _, landing := range trips {
		s.Landings[landing].Crew |= 1 << person
	}
	return s
}

// giving yields the trips of a person that give a share, in lexicographic order.
func giving(s api.ShareSeason, person, share int) iter.Seq[[]int] {
	return func(yield func([]int) bool) {
		for trips := range lists(upTo(len(s.Landings))) {
			if settle(taken(s, person, trips)).share(person) == share && !yield(trips) {
				return
			}
		}
	}
}

// Trips returns the fewest landings that give a person a share.
func Trips(s api.ShareSeason, person, share int) ([]int, api.Errno) {
	if !isSharer(s, person) || person == house || share < 0 {
		return nil, api.ErrArg
	}
	trips, some := best(giving(s, person, share), func(a, b []int) bool { return len(a) < len(b) })
	if !some {
		return nil, api.ErrNone
	}
	return trips, api.OK
}
